/- Ra6 -/
import Derived.Test.YtmnlhnmlgncedaaGreatDoorRa5
import Derived.Test.YtmnlhnmlgncedaaGreatDoorWr2
import Derived.Test.YtmnlhnmlgncedaaGreatDoorRp5
import Derived.Test.YtmnlhnmlgncedaaGreatDoorShl
import Derived.Test.YtmnlhnmlgncedaaGreatDoorPa2
import Derived.Test.YtmnlhnmlgncedaaGreatDoorCmp
import Derived.Test.YtmnlhnmlgncedaaGreatDoorMul
namespace Go.Proofs.YtmnlhnmlgncedaaGreatDoor
open Go.RowKit Go.Deep
set_option linter.unusedVariables false
set_option maxHeartbeats 8000000 in
theorem lowest_any (neg:Bool) (a1 a2:Option Addr) (n1 c1 n2 c2:Nat) (xs ys:List Nat) (w:World) (h1:Sl w a1 n1 c1 xs) (h2:Sl w a2 n2 c2 ys) (ox:Ok xs) (oy:Ok ys) (m1:MayL xs = true) (m2:MayL ys = true) (hy:ys ≠ []) (hT:Tab64 w) :
  Calls Tryz.prog 35 #[.bool neg,.slice a1 n1 c1,.slice a2 n2 c2] w fun e w' => ∃ v,e = .returned v ∧ NewR w w' (neg && decide (xs ≠ [])) (limbs (val xs / Nat.gcd (val xs) (val ys))) (limbs (val ys / Nat.gcd (val xs) (val ys))) v:=by
 obtain ⟨wb,hwb⟩:∃ wb,w.alloc (.cells #[.bool false,.slice none 0 0,.slice none 0 0] 25) = wb:=⟨_,rfl⟩
 have hbb:Below w.heap.size w wb:=by rw [← hwb]; exact bAl
 have hO:Out wb w.heap.size:=by rw [← hwb]; exact Out.made w
 have KD0:=ratDivisor_any a1 a2 n1 c1 n2 c2 xs ys wb (h1.below hbb) (h2.below hbb) ox oy m1 m2 (hT.below hbb)
 have hyp:=val_pos_of_may m2 hy
 have hGp:0 < Nat.gcd (val xs) (val ys):=Nat.gcd_pos_of_pos_right _ hyp
 have hGm:MayL (limbs (Nat.gcd (val xs) (val ys))) = true:=may_small m2 oy (Nat.gcd_le_right _ hyp)
 have hQ1:MayL (limbs (val xs / Nat.gcd (val xs) (val ys))) = true:=may_div m1 ox _
 have hQ2:MayL (limbs (val ys / Nat.gcd (val xs) (val ys))) = true:=may_div m2 oy _
 have hQ0:xs ≠ [] → val xs / Nat.gcd (val xs) (val ys) ≠ 0:=fun hx => by
  have hxp:=val_pos_of_may m1 hx
  have:=Nat.div_pos (Nat.gcd_le_left (val ys) hxp) hGp
  omega
 have hQz:xs = [] → val xs / Nat.gcd (val xs) (val ys) = 0:=fun hx => by rw [hx]; simp [val]
 obtain ⟨G,hG⟩:∃ G,Nat.gcd (val xs) (val ys) = G:=⟨_,rfl⟩
 rw [hG] at KD0 hGp hGm hQ1 hQ2 hQ0 hQz ⊢
 have KD:=Hj KD0
 have HQ:=Hj (And.intro hQ0 hQz)
 have H1:=Hj h1
 have H2:=Hj h2
 have HO:=Hj hO
 have HB:=Hj hbb
 have HM:=Hj (And.intro m1 (And.intro m2 (And.intro hGm (And.intro hQ1 hQ2))))
 clear KD0 h1 h2 hO hbb m1 m2 hT hG hQ0 hQz hyp hQ1 hQ2 hGm
 go_enter Tryz.func35,Tryz.ntmps35
 go_wp2_with fail
 refine (Uh KD).mono ?_
 rintro _ w1 ⟨aG,mG,cG,rfl,sG,nG,bG⟩
 have hb1:=(Uh HB).trans (bG.mono (Uh HB).size)
 have KQ:=ratQuotient_any a1 aG n1 c1 mG cG xs (limbs G) w1 ((Uh H1).below hb1) sG ox (limbs_rep G).ok (Uh HM).1 (Uh HM).2.2.1 (limbs_ne hGp)
 rw [(limbs_rep G).val] at KQ
 have KQ':=Hj KQ
 have SG:=Hj sG
 have HB1:=Hj hb1
 have HO1:=Hj ((Uh HO).keep bG)
 clear KQ sG nG bG hb1 KD HO HB
 go_wp2_with fail
 refine (Uh KQ').mono ?_
 rintro _ w2 ⟨aq,mq,cq,rfl,sq,_,bq⟩
 have hmq:mq ≤ 1000000:=by have:=sq.len; have:=MayL.len (Uh HM).2.2.2.1; omega
 have KC:=Hj (sclone_any aq mq cq _ w2 sq hmq)
 have HB2:=Hj ((Uh HB1).trans (bq.mono (Uh HB1).size))
 have HO2:=Hj ((Uh HO1).keep bq)
 have SG2:=Hj ((Uh SG).below bq)
 clear sq bq KQ' HB1 HO1 SG
 go_wp2_with fail
 refine (Uh KC).mono ?_
 rintro _ w3 ⟨aN,mN,cN,rfl,sN,nN,bN⟩
 have hb3:=(Uh HB2).trans (bN.mono (Uh HB2).size)
 have KQ:=ratQuotient_any a2 aG n2 c2 mG cG ys (limbs G) w3 ((Uh H2).below hb3) ((Uh SG2).below bN) oy (limbs_rep G).ok (Uh HM).2.1 (Uh HM).2.2.1 (limbs_ne hGp)
 rw [(limbs_rep G).val] at KQ
 have KQ':=Hj KQ
 have HB3:=Hj hb3
 have HO3:=Hj ((Uh HO2).keep bN)
 have hN2:NewAt w.heap.size aN:=fun x hx => Nat.le_trans (Uh HB2).size (nN x hx)
 have hNR:∀ x,aN = some x → x.block ≠ w.heap.size:=fun x hx => by have h1:=nN x hx; have h2:=(Uh HO2).lt; omega
 have SN:=Hj (And.intro sN (And.intro hN2 hNR))
 clear KQ sN nN bN hb3 KC HO2 HB2 SG2 hN2 hNR
 go_wp2_with fail
 refine (Uh KQ').mono ?_
 rintro _ w4 ⟨ar,mr,cr,rfl,sr,_,br⟩
 have hmr:mr ≤ 1000000:=by have:=sr.len; have:=MayL.len (Uh HM).2.2.2.2; omega
 have KC:=Hj (sclone_any ar mr cr _ w4 sr hmr)
 have HB4:=Hj ((Uh HB3).trans (br.mono (Uh HB3).size))
 have HO4:=Hj ((Uh HO3).keep br)
 have SN4:=Hj (And.intro ((Uh SN).1.below br) (Uh SN).2)
 clear sr br KQ' HB3 HO3 SN
 go_wp2_with fail
 refine (Uh KC).mono ?_
 rintro _ w5 ⟨aD,mD,cD,rfl,sD,nD,bD⟩
 have HB5:=Hj ((Uh HB4).trans (bD.mono (Uh HB4).size))
 have HO5:=Hj ((Uh HO4).keep bD)
 have SN5:=Hj (And.intro ((Uh SN4).1.below bD) (Uh SN4).2)
 have hD2:NewAt w.heap.size aD:=fun x hx => Nat.le_trans (Uh HB4).size (nD x hx)
 have hDR:∀ x,aD = some x → x.block ≠ w.heap.size:=fun x hx => by have h1:=nD x hx; have h2:=(Uh HO4).lt; omega
 have SD:=Hj (And.intro sD (And.intro hD2 hDR))
 clear sD nD bD KC HO4 HB4 SN4 hD2 hDR
 go_wp2_with fail
 refine (signed_any neg aN aD mN cN mD cD w5).mono ?_
 rintro _ w6 ⟨rfl,b6⟩
 have hO6:=(Uh HO5).keep b6
 obtain ⟨x0,q0⟩:=hO6.cells 0 (by decide)
 obtain ⟨x1,q1⟩:=hO6.cells 1 (by decide)
 obtain ⟨x2,q2⟩:=hO6.cells 2 (by decide)
 have r0:=hO6.fz 0 (by decide)
 have r1:=hO6.fz 1 (by decide)
 have r2:=hO6.fz 2 (by decide)
 obtain ⟨SGN,hSGN⟩:∃ SGN,(neg && decide (0 < mN)) = SGN:=⟨_,rfl⟩
 rw [hSGN]
 have HSG:=Hj hSGN
 have H4:=Hj (three_set w6 w.heap.size (.bool SGN) (.slice aN mN cN) (.slice aD mD cD) hO6.cells)
 have HB6:=Hj b6
 unfold ratV
 clear hO6 b6 hSGN
 go_wp2_with fail
 obtain ⟨p0,p1,p2,c4⟩:=Uh H4
 generalize ((w6.setCell ⟨w.heap.size,0,none⟩ (.bool SGN)).setCell ⟨w.heap.size,1,none⟩ (.slice aN mN cN)).setCell ⟨w.heap.size,2,none⟩ (.slice aD mD cD) = wf at *
 refine bodyPost_ret (by simp [results,Tryz.results35,go_sem,p0,p1,p2]; try rfl) rfl ?_
 have hbf:=(Uh HB5).trans ((Uh HB6).mono (Uh HB5).size)
 refine ⟨_,rfl,aN,mN,cN,aD,mD,cD,ratV_congr ?_,((Uh SN5).1.below (Uh HB6)).chg c4 (fun x hx _ => (Uh SN5).2.2 x hx),((Uh SD).1.below (Uh HB6)).chg c4 (fun x hx _ => (Uh SD).2.2 x hx),(Uh SN5).2.1,(Uh SD).2.1,hbf.trans (c4.below hbf.size (fun k hk => by omega))⟩
 rw [← Uh HSG]
 have hl:=(Uh SN5).1.len
 have:decide (0 < mN) = decide (xs ≠ []):=by
  by_cases e:xs = []
  ·have h0:=(Uh HQ).2 e
   rw [h0] at hl
   simp [limbs_zero] at hl
   subst hl
   simp [e]
  ·have h0:=(Uh HQ).1 e
   have:0 < mN:=by
    rw [← hl]
    exact List.length_pos_iff.2 (limbs_ne (Nat.pos_of_ne_zero h0))
   simp [e,this]
 rw [this]

structure MkL where
 neg:Bool
 num:List Nat
 den:List Nat
 er:Int
def makeL (neg:Bool) (xs ys:List Nat):MkL :=
 if (MayL xs && MayL ys) = true then (if ys = [] then ⟨false,[],[],3⟩ else ⟨neg && decide (xs ≠ []),limbs (val xs / Nat.gcd (val xs) (val ys)),limbs (val ys / Nat.gcd (val xs) (val ys)),0⟩) else ⟨false,[],[],20⟩

set_option maxHeartbeats 8000000 in
theorem ratMake_any (neg:Bool) (a1 a2:Option Addr) (n1 c1 n2 c2:Nat) (xs ys:List Nat) (w:World) (h1:Sl w a1 n1 c1 xs) (h2:Sl w a2 n2 c2 ys) (ox:Ok xs) (oy:Ok ys) (hT:Tab64 w) :
  Calls Tryz.prog 9 #[.bool neg,.slice a1 n1 c1,.slice a2 n2 c2] w fun e w' => ResR w w' (makeL neg xs ys).neg (makeL neg xs ys).num (makeL neg xs ys).den (makeL neg xs ys).er e:=by
 obtain ⟨wb,hwb⟩:∃ wb,w.alloc (.cells #[.bool false,.slice none 0 0,.slice none 0 0] 25) = wb:=⟨_,rfl⟩
 have hbb:Below w.heap.size w wb:=by rw [← hwb]; exact bAl
 have hO:Out wb w.heap.size:=by rw [← hwb]; exact Out.made w
 have K1:=may_any a1 n1 c1 xs wb (h1.below hbb)
 have K2:=may_any a2 n2 c2 ys wb (h2.below hbb)
 have hl2:=h2.len
 have KL:=fun m1 m2 hy => lowest_any neg a1 a2 n1 c1 n2 c2 xs ys wb (h1.below hbb) (h2.below hbb) ox oy m1 m2 hy (hT.below hbb)
 have HO:=Hj hO
 have HB:=Hj hbb
 have H3:=Hj (three_set wb w.heap.size (.bool false) (.slice none 0 0) (.slice none 0 0) hO.cells)
 obtain ⟨x0,q0⟩:=hO.cells 0 (by decide)
 obtain ⟨x1,q1⟩:=hO.cells 1 (by decide)
 obtain ⟨x2,q2⟩:=hO.cells 2 (by decide)
 have r0:=hO.fz 0 (by decide)
 have r1:=hO.fz 1 (by decide)
 have r2:=hO.fz 2 (by decide)
 clear h1 h2 hT hbb hO
 cases m1:MayL xs
 ·rw [m1] at K1
  have K1':=Hj K1
  have HR:=Hj (show makeL neg xs ys = ⟨false,[],[],20⟩ from by simp [makeL,m1])
  clear K1 K2 KL m1
  go_enter Tryz.func9,Tryz.ntmps9
  go_wp2_with fail
  refine (Uh K1').mono ?_
  rintro _ _ ⟨rfl,hw⟩
  obtain rfl:=hw.symm
  clear hw
  go_wp2_with fail
  obtain ⟨p0,p1,p2,c4⟩:=Uh H3
  generalize ((wb.setCell ⟨w.heap.size,0,none⟩ (.bool false)).setCell ⟨w.heap.size,1,none⟩ (.slice none 0 0)).setCell ⟨w.heap.size,2,none⟩ (.slice none 0 0) = wf at *
  refine bodyPost_ret (by simp [results,Tryz.results9,go_sem,p0,p1,p2]; try rfl) rfl ?_
  rw [Uh HR]
  exact ⟨_,rfl,none,0,0,none,0,0,rfl,sl_nil _,sl_nil _,newAt_nil _,newAt_nil _,(Uh HB).trans (c4.below (Uh HB).size (fun k hk => by omega))⟩
 ·rw [m1] at K1
  cases m2:MayL ys
  ·rw [m2] at K2
   have K1':=Hj K1
   have K2':=Hj K2
   have HR:=Hj (show makeL neg xs ys = ⟨false,[],[],20⟩ from by simp [makeL,m2])
   clear K1 K2 KL m1 m2
   go_enter Tryz.func9,Tryz.ntmps9
   go_wp2_with fail
   refine (Uh K1').mono ?_
   rintro _ _ ⟨rfl,hw⟩
   obtain rfl:=hw.symm
   clear hw
   go_wp2_with fail
   refine (Uh K2').mono ?_
   rintro _ _ ⟨rfl,hw⟩
   obtain rfl:=hw.symm
   clear hw
   go_wp2_with fail
   obtain ⟨p0,p1,p2,c4⟩:=Uh H3
   generalize ((wb.setCell ⟨w.heap.size,0,none⟩ (.bool false)).setCell ⟨w.heap.size,1,none⟩ (.slice none 0 0)).setCell ⟨w.heap.size,2,none⟩ (.slice none 0 0) = wf at *
   refine bodyPost_ret (by simp [results,Tryz.results9,go_sem,p0,p1,p2]; try rfl) rfl ?_
   rw [Uh HR]
   exact ⟨_,rfl,none,0,0,none,0,0,rfl,sl_nil _,sl_nil _,newAt_nil _,newAt_nil _,(Uh HB).trans (c4.below (Uh HB).size (fun k hk => by omega))⟩
  ·rw [m2] at K2
   have K1':=Hj K1
   have K2':=Hj K2
   by_cases hy:ys = []
   ·have HR:=Hj (show makeL neg xs ys = ⟨false,[],[],3⟩ from by unfold makeL; rw [m1,m2,if_pos (by decide:(true && true) = true),if_pos hy])
    have hn2:n2 = 0:=by rw [← hl2,hy]; rfl
    subst hn2
    clear K1 K2 KL m1 m2 hy hl2
    go_enter Tryz.func9,Tryz.ntmps9
    go_wp2_with fail
    refine (Uh K1').mono ?_
    rintro _ _ ⟨rfl,hw⟩
    obtain rfl:=hw.symm
    clear hw
    go_wp2_with fail
    refine (Uh K2').mono ?_
    rintro _ _ ⟨rfl,hw⟩
    obtain rfl:=hw.symm
    clear hw
    go_wp2_with fail
    obtain ⟨p0,p1,p2,c4⟩:=Uh H3
    generalize ((wb.setCell ⟨w.heap.size,0,none⟩ (.bool false)).setCell ⟨w.heap.size,1,none⟩ (.slice none 0 0)).setCell ⟨w.heap.size,2,none⟩ (.slice none 0 0) = wf at *
    refine bodyPost_ret (by simp [results,Tryz.results9,go_sem,p0,p1,p2]; try rfl) rfl ?_
    rw [Uh HR]
    exact ⟨_,rfl,none,0,0,none,0,0,rfl,sl_nil _,sl_nil _,newAt_nil _,newAt_nil _,(Uh HB).trans (c4.below (Uh HB).size (fun k hk => by omega))⟩
   ·have hn2:0 < n2:=by rw [← hl2]; exact List.length_pos_iff.2 hy
    have t1:((n2:Int) == 0) = false:=by simp; omega
    have t2:¬ (n2:Int) = 0:=by omega
    have KL1:=Hj (KL m1 m2 hy)
    have HR:=Hj (show makeL neg xs ys = ⟨neg && decide (xs ≠ []),limbs (val xs / Nat.gcd (val xs) (val ys)),limbs (val ys / Nat.gcd (val xs) (val ys)),0⟩ from by unfold makeL; rw [m1,m2,if_pos (by decide:(true && true) = true),if_neg hy])
    obtain ⟨SG,hSG⟩:∃ SG,(neg && decide (xs ≠ [])) = SG:=⟨_,rfl⟩
    obtain ⟨Q1,hQ1⟩:∃ Q1,limbs (val xs / Nat.gcd (val xs) (val ys)) = Q1:=⟨_,rfl⟩
    obtain ⟨Q2,hQ2⟩:∃ Q2,limbs (val ys / Nat.gcd (val xs) (val ys)) = Q2:=⟨_,rfl⟩
    rw [hSG,hQ1,hQ2] at KL1 HR
    clear K1 K2 KL m1 m2 hy hl2 hSG hQ1 hQ2
    go_enter Tryz.func9,Tryz.ntmps9
    go_wp2_with fail
    refine (Uh K1').mono ?_
    rintro _ _ ⟨rfl,hw⟩
    obtain rfl:=hw.symm
    clear hw
    go_wp2_with fail
    refine (Uh K2').mono ?_
    rintro _ _ ⟨rfl,hw⟩
    obtain rfl:=hw.symm
    clear hw
    clear q0 q1 q2 r0 r1 r2 H3
    go_wp2_with fail
    refine (Uh KL1).mono ?_
    rintro _ w2 ⟨_,rfl,aN,mN,cN,aD,mD,cD,rfl,sN,sD,nN,nD,b2⟩
    have hO3:=(Uh HO).keep b2
    obtain ⟨x0,q0⟩:=hO3.cells 0 (by decide)
    obtain ⟨x1,q1⟩:=hO3.cells 1 (by decide)
    obtain ⟨x2,q2⟩:=hO3.cells 2 (by decide)
    have r0:=hO3.fz 0 (by decide)
    have r1:=hO3.fz 1 (by decide)
    have r2:=hO3.fz 2 (by decide)
    have H4:=Hj (three_set w2 w.heap.size (.bool SG) (.slice aN mN cN) (.slice aD mD cD) hO3.cells)
    have HN:=Hj (And.intro sN (And.intro sD (And.intro nN (And.intro nD b2))))
    unfold ratV
    clear hO3 sN sD nN nD b2
    go_wp2_with fail
    obtain ⟨p0,p1,p2,c4⟩:=Uh H4
    generalize ((w2.setCell ⟨w.heap.size,0,none⟩ (.bool SG)).setCell ⟨w.heap.size,1,none⟩ (.slice aN mN cN)).setCell ⟨w.heap.size,2,none⟩ (.slice aD mD cD) = wf at *
    refine bodyPost_ret (by simp [results,Tryz.results9,go_sem,p0,p1,p2]; try rfl) rfl ?_
    rw [Uh HR]
    obtain ⟨sN,sD,nN,nD,b2⟩:=Uh HN
    have hbz:=(Uh HB).size
    have hz:=(Uh HO).lt
    refine ⟨_,rfl,aN,mN,cN,aD,mD,cD,rfl,sN.chg c4 (fun x hx _ => by have:=nN x hx; omega),sD.chg c4 (fun x hx _ => by have:=nD x hx; omega),fun x hx => by have:=nN x hx; omega,fun x hx => by have:=nD x hx; omega,?_⟩
    have hb2:=(Uh HB).trans (b2.mono hbz)
    exact hb2.trans (c4.below hb2.size (fun k hk => by omega))
structure SlL (w:World) (a:Option Addr) (n c:Nat) (ps:List Pc):Prop where
 len:ps.length = n
 le:n ≤ c
 cells:ps = [] ∨ ∃ b off,a = some ⟨b,off,none⟩ ∧ ∀ i p,ps[i]? = some p → w.cell? ⟨b,off + i,none⟩ = some (.slice p.a p.n p.c)
 each:∀ p ∈ ps,Sl w p.a p.n p.c p.xs ∧ Ok p.xs

theorem SlL.below {w w':World} {a:Option Addr} {n c:Nat} {ps:List Pc} (h:SlL w a n c ps) (k:Below w.heap.size w w'):SlL w' a n c ps:=by
 refine ⟨h.len,h.le,?_,fun p hp => ⟨(h.each p hp).1.below k,(h.each p hp).2⟩⟩
 rcases h.cells with e | ⟨b,off,e,hc⟩
 ·exact .inl e
 ·refine .inr ⟨b,off,e,fun i p hp => ?_⟩
  have h1:=hc i p hp
  have hb:=World.block_lt_of_cell? _ _ h1
  have:w'.cell? ⟨b,off + i,none⟩ = w.cell? ⟨b,off + i,none⟩:=by unfold World.cell?; simp only; rw [k.block b hb]
  rw [this]; exact h1

theorem SlL.at' {w:World} {a:Option Addr} {n c:Nat} {ps:List Pc} (h:SlL w a n c ps) {i:Nat} (hi:i < n) :
  ∃ b off p,a = some ⟨b,off,none⟩ ∧ ps[i]? = some p ∧ w.cell? ⟨b,off + i,none⟩ = some (.slice p.a p.n p.c) ∧ Sl w p.a p.n p.c p.xs ∧ Ok p.xs:=by
 have hl:=h.len
 have hi':i < ps.length:=by omega
 have hp:ps[i]? = some ps[i]:=List.getElem?_eq_getElem hi'
 rcases h.cells with e | ⟨b,off,e,hc⟩
 ·rw [e] at hl; simp at hl; omega
 ·exact ⟨b,off,ps[i],e,hp,hc i _ hp,h.each _ (List.getElem_mem hi')⟩

def mayB (ps:List Pc):Bool:=ps.all (fun p => MayL p.xs)

theorem mayB_get {ps:List Pc} (h:mayB ps = true) {i:Nat} {p:Pc} (hp:ps[i]? = some p):MayL p.xs = true:=by
 unfold mayB at h
 rw [List.all_eq_true] at h
 exact h p (List.mem_of_getElem? hp)
theorem mayB_false {ps:List Pc} {i:Nat} {p:Pc} (hp:ps[i]? = some p) (h:MayL p.xs = false):mayB ps = false:=by
 cases hm:mayB ps
 ·rfl
 ·have:=mayB_get hm hp
  rw [h] at this
  cases this
theorem mayB_true {ps:List Pc} {n:Nat} (hl:ps.length = n) (h:∀ i p,i < n → ps[i]? = some p → MayL p.xs = true):mayB ps = true:=by
 unfold mayB
 rw [List.all_eq_true]
 intro p hp
 obtain ⟨i,hi,e⟩:=List.getElem_of_mem hp
 exact h i p (by omega) (by rw [List.getElem?_eq_getElem hi,e])

set_option maxHeartbeats 4000000 in
theorem nmayAll_any (a:Option Addr) (n c:Nat) (ps:List Pc) (w:World) (h:SlL w a n c ps) (hn:n ≤ 140737488355328) :
  Calls Tryz.prog 142 #[.slice a n c] w fun e w' => e = .returned (.bool (mayB ps)) ∧ w' = w:=by
 have H:=Hj h
 have HL:=Hj h.len
 clear h
 go_enter Tryz.func142,Tryz.ntmps142
 go_wp2_with fail
 go_loop [6] (fun iv => ∃ i:Nat,i ≤ n ∧ iv = .int .i64 (i:Nat) ∧ Hid (∀ j p,j < i → ps[j]? = some p → MayL p.xs = true)) (fun iv => n - (intOf iv).toNat)
 case atStart => exact ⟨0,Nat.zero_le _,rfl,fun j p hj => by omega⟩
 case round =>
  obtain ⟨i,hi,rfl,HA⟩:=hrel
  by_cases hlt:i < n
  ·have hlt':(i:Int) < (n:Int):=by omega
   obtain ⟨b,off,p,rfl,hp,hc,hs,ok⟩:=(Uh H).at' hlt
   have KM:=may_any p.a p.n p.c p.xs w hs
   have HP:=Hj hp
   clear hp hs ok
   cases hm:MayL p.xs
   ·rw [hm] at KM
    have KM':=Hj KM
    have HF:=Hj (mayB_false (Uh HP) hm)
    clear KM hm
    go_wp2_with fail
    refine (Uh KM').mono ?_
    rintro _ _ ⟨rfl,hw⟩
    obtain rfl:=hw.symm
    clear hw
    go_wp2_with fail
    go_ret
    rw [Uh HF]
    exact ⟨rfl,rfl⟩
   ·rw [hm] at KM
    have KM':=Hj KM
    have HA2:=Hj (show ∀ j q,j < i + 1 → ps[j]? = some q → MayL q.xs = true from fun j q hj hq => by
     by_cases e:j = i
     ·subst e
      rw [Uh HP] at hq
      cases hq
      exact hm
     ·exact Uh HA j q (by omega) hq)
    clear KM hm HA
    go_wp2_with fail
    refine (Uh KM').mono ?_
    rintro _ _ ⟨rfl,hw⟩
    obtain rfl:=hw.symm
    clear hw
    go_wp2_with fail
    exact ⟨⟨i + 1,by omega,by go_num,Uh HA2⟩,by simp [intOf]; omega⟩
  ·obtain rfl:i = n:=by omega
   have hlt':¬ (i:Int) < (i:Int):=by omega
   have HF:=Hj (mayB_true (Uh HL) (Uh HA))
   clear HA
   go_wp2_with fail
   go_ret
   rw [Uh HF]
   exact ⟨rfl,rfl⟩

def prodF:Nat → List Pc → List Nat × Int
 | z,[] => (limbs z,0)
 | z,p :: ps => if 2048 < (limbs (z * val p.xs)).length then ([],2) else prodF (z * val p.xs) ps
def prodL (ps:List Pc):List Nat × Int:=if mayB ps = true then prodF 1 ps else ([],20)

theorem drop_at {ps:List Pc} {i:Nat} {p:Pc} (h:ps[i]? = some p):ps.drop i = p :: ps.drop (i + 1):=by
 obtain ⟨hi,e⟩:=List.getElem?_eq_some_iff.1 h
 rw [List.drop_eq_getElem_cons hi,e]

structure PdR (wr w:World) (ps:List Pc) (i Z:Nat) (a:Option Addr) (m c:Nat):Prop where
 sl:Sl wr a m c (limbs Z)
 new:NewAt w.heap.size a
 le:(limbs Z).length ≤ 2048
 eq:prodF 1 ps = prodF Z (ps.drop i)
 bel:Below w.heap.size w wr
theorem mul_may {Z:Nat} {xs:List Nat} (hl:(limbs Z).length ≤ 2048) (hm:MayL xs = true):mulL (limbs Z) xs = fitL (Z * val xs):=by
 unfold mulL
 rw [show MayL (limbs Z) = true from MayL.mk (limbs_rep _).norm hl,hm,(limbs_rep Z).val]
 rfl

set_option maxHeartbeats 4000000 in
theorem nprod_any (a:Option Addr) (n c:Nat) (ps:List Pc) (w:World) (h:SlL w a n c ps) (hn:n ≤ 140737488355328) :
  Calls Tryz.prog 89 #[.slice a n c] w fun e w' => Res2 w w' (prodL ps) e:=by
 have KA:=nmayAll_any a n c ps w h hn
 have H:=Hj h
 have HL:=Hj h.len
 clear h
 cases hm:mayB ps
 ·rw [hm] at KA
  have KA':=Hj KA
  have HR:=Hj (show prodL ps = ([],20) from by unfold prodL; rw [hm]; rfl)
  clear KA hm
  go_enter Tryz.func89,Tryz.ntmps89
  go_wp2_with fail
  refine (Uh KA').mono ?_
  rintro _ _ ⟨rfl,hw⟩
  obtain rfl:=hw.symm
  clear hw
  go_wp2_with fail
  go_ret2
  rw [Uh HR]
  exact ⟨none,0,0,rfl,sl_nil _,newAt_nil _,Below.refl _ _⟩
 ·rw [hm] at KA
  have KA':=Hj KA
  have HR:=Hj (show prodL ps = prodF 1 ps from by unfold prodL; rw [if_pos hm])
  have HM:=Hj hm
  clear KA hm
  go_enter Tryz.func89,Tryz.ntmps89
  go_wp2_with fail
  refine (Uh KA').mono ?_
  rintro _ _ ⟨rfl,hw⟩
  obtain rfl:=hw.symm
  clear hw
  go_wp2_with fail
  refine (from_any 1 w (by decide)).mono ?_
  rintro _ w1 ⟨a1,m1,y1,rfl,s1,r1,n1,b1⟩
  rw [r1.eq] at s1
  have H1:=Hj (And.intro s1 (And.intro n1 b1))
  clear s1 r1 n1 b1
  go_wp2_with fail
  go_loopw [4,13] (fun zv iv wr => ∃ (i Z:Nat) (az:Option Addr) (mz cz:Nat),i ≤ n ∧ iv = .int .i64 (i:Nat) ∧ zv = .slice az mz cz ∧ PdR wr w ps i Z az mz cz) (fun _ iv _ => n - (intOf iv).toNat)
  case atStart => exact ⟨0,1,a1,m1,m1,Nat.zero_le _,rfl,rfl,(Uh H1).1,(Uh H1).2.1,by decide,by simp,(Uh H1).2.2⟩
  case round =>
   clear H1
   obtain ⟨i,Z,az,mz,cz,hi,rfl,rfl,hR⟩:=hrel
   by_cases hlt:i < n
   ·have hlt':(i:Int) < (n:Int):=by omega
    obtain ⟨b,off,p,rfl,hp,hc,hs,ok⟩:=((Uh H).below hR.bel).at' hlt
    have hmp:=mayB_get (Uh HM) hp
    have KM:=nmul_any az p.a mz cz p.n p.c (limbs Z) p.xs wr hR.sl hs (limbs_rep Z).ok ok
    rw [mul_may hR.le hmp] at KM
    have hd:=drop_at hp
    have heq:=hR.eq
    rw [hd] at heq
    by_cases hbig:2048 < (limbs (Z * val p.xs)).length
    ·rw [fitL_big hbig] at KM
     have HE:=Hj (show prodF 1 ps = ([],2) from by rw [heq]; simp [prodF,hbig])
     have KM':=Hj KM
     have HB:=Hj hR.bel
     clear KM hR hp hs ok hd heq hbig
     go_wp2_with fail
     refine (Uh KM').mono ?_
     rintro _ w2 ⟨a2,m2,c2,rfl,s2,n2,b2⟩
     have HB2:=Hj ((Uh HB).trans (b2.mono (Uh HB).size))
     clear s2 n2 b2 KM' HB
     go_wp2_with fail
     go_ret2
     rw [Uh HR,Uh HE]
     exact ⟨none,0,0,rfl,sl_nil _,newAt_nil _,Uh HB2⟩
    ·rw [fitL_ok hbig] at KM
     have HE:=Hj (show prodF 1 ps = prodF (Z * val p.xs) (ps.drop (i + 1)) from by rw [heq]; simp [prodF,hbig])
     have hle2:(limbs (Z * val p.xs)).length ≤ 2048:=by omega
     have HL2:=Hj hle2
     have KM':=Hj KM
     have HB:=Hj hR.bel
     clear KM hR hp hs ok hd heq hbig hle2
     generalize Z * val p.xs = Z' at *
     go_wp2_with fail
     refine (Uh KM').mono ?_
     rintro _ w2 ⟨a2,m2,c2,rfl,s2,n2,b2⟩
     have HN:=Hj (show PdR w2 w ps (i + 1) Z' a2 m2 c2 from ⟨s2,fun x hx => Nat.le_trans (Uh HB).size (n2 x hx),Uh HL2,Uh HE,(Uh HB).trans (b2.mono (Uh HB).size)⟩)
     clear s2 n2 b2 KM' HB
     go_wp2_with fail
     exact ⟨⟨i + 1,Z',a2,m2,c2,by omega,by go_num,rfl,Uh HN⟩,by simp [intOf]; omega⟩
   ·obtain rfl:i = n:=by omega
    have hlt':¬ (i:Int) < (i:Int):=by omega
    have heq:=hR.eq
    rw [List.drop_eq_nil_of_le (by rw [Uh HL]; exact Nat.le_refl _)] at heq
    have HE:=Hj (show prodF 1 ps = (limbs Z,0) from heq)
    have HN:=Hj hR
    clear hR heq
    go_wp2_with fail
    go_ret2
    rw [Uh HR,Uh HE]
    exact ⟨az,mz,cz,rfl,(Uh HN).sl,(Uh HN).new,(Uh HN).bel⟩

def sumV:List Pc → Nat
 | [] => 0
 | p :: ps => val p.xs + sumV ps
def sumL (ps:List Pc):List Nat × Int:=if mayB ps = true then fitL (sumV ps) else ([],20)
theorem sumV_append (xs ys:List Pc):sumV (xs ++ ys) = sumV xs + sumV ys:=by
 induction xs with
 | nil => simp [sumV]
 | cons p xs ih => simp only [List.cons_append,sumV,ih]; omega
theorem sumV_take {ps:List Pc} {i:Nat} {p:Pc} (h:ps[i]? = some p):sumV (ps.take (i + 1)) = sumV (ps.take i) + val p.xs:=by
 obtain ⟨hi,e⟩:=List.getElem?_eq_some_iff.1 h
 rw [List.take_succ_eq_append_getElem hi,sumV_append,e]
 simp [sumV]
theorem limbs_len_monoF {v u:Nat} (h:v ≤ u):(limbs v).length ≤ (limbs u).length:=by
 have h1:=val_lt (limbs_rep u).ok
 rw [(limbs_rep u).val] at h1
 refine rep_len_le (limbs_rep v) (by omega)
theorem sum_bound {w:World} {a:Option Addr} {n c:Nat} {ps:List Pc} (h:SlL w a n c ps) {g:Nat} (hg:∀ j p,j < n → ps[j]? = some p → p.n ≤ g):∀ i,i ≤ n → sumV (ps.take i) ≤ i * 4294967296 ^ g
 | 0,_ => by simp [sumV]
 | i + 1,hi => by
  have ih:=sum_bound h hg i (by omega)
  obtain ⟨b,off,p,e,hp,hc,hs,ok⟩:=h.at' (show i < n by omega)
  rw [sumV_take hp,Nat.succ_mul]
  have h1:=val_lt ok
  rw [hs.len] at h1
  have h2:4294967296 ^ p.n ≤ 4294967296 ^ g:=pow_mono (hg i p (by omega) hp)
  omega

structure AaR (wr w:World) (M:Nat) (ps:List Pc) (i:Nat) (f:Nat → Nat):Prop where
 fn:Fn wr w.heap.size 0 M f
 ok:∀ i,i < M → f i < 4294967296
 val:valF f M = sumV (ps.take i)
 bel:Below w.heap.size w wr

theorem sum_small {n i g M S:Nat} (hn:n ≤ 140737488355328) (hi:i ≤ n) (hM:g + 2 = M) (h:S ≤ i * 4294967296 ^ g):S < 4294967296 ^ M:=by
 rw [← hM,Nat.pow_add]
 have h1:i * 4294967296 ^ g ≤ 140737488355328 * 4294967296 ^ g:=Nat.mul_le_mul_right _ (by omega)
 have h2:0 < 4294967296 ^ g:=Nat.pow_pos (by decide)
 have h3:(4294967296:Nat) ^ 2 = 18446744073709551616:=by decide
 rw [h3]
 generalize 4294967296 ^ g = Y at *
 omega

set_option maxHeartbeats 4000000 in
theorem naddAll_any (a:Option Addr) (n c:Nat) (ps:List Pc) (w:World) (h:SlL w a n c ps) (hn:n ≤ 140737488355328) (hm:mayB ps = true) :
  Calls Tryz.prog 211 #[.slice a n c] w fun e w' => NewRep w w' (sumV ps) e:=by
 have H:=Hj h
 have HL:=Hj h.len
 have HM:=Hj hm
 clear h hm
 go_enter Tryz.func211,Tryz.ntmps211
 go_wp2_with fail
 go_loop [3,9] (fun gv iv => ∃ i g:Nat,i ≤ n ∧ g ≤ 2048 ∧ gv = .int .i64 (g:Nat) ∧ iv = .int .i64 (i:Nat) ∧ Hid (∀ j p,j < i → ps[j]? = some p → p.n ≤ g)) (fun _ iv => n - (intOf iv).toNat)
 case atStart => exact ⟨0,0,Nat.zero_le _,Nat.zero_le _,rfl,rfl,fun j p hj => by omega⟩
 case round =>
  obtain ⟨i,g,hi,hg,rfl,rfl,HA⟩:=hrel
  by_cases hlt:i < n
  ·have hlt':(i:Int) < (n:Int):=by omega
   obtain ⟨b,off,p,rfl,hp,hc,hs,ok⟩:=(Uh H).at' hlt
   have hmp:=mayB_get (Uh HM) hp
   have hl:=hs.len
   have hml:=MayL.len hmp
   have hpn:p.n ≤ 2048:=by omega
   have HP:=Hj hp
   clear hp hs ok hmp hl hml
   by_cases hgl:g < p.n
   ·have HA2:=Hj (show ∀ j q,j < i + 1 → ps[j]? = some q → q.n ≤ p.n from fun j q hj hq => by
     by_cases e:j = i
     ·subst e
      rw [Uh HP] at hq
      cases hq
      exact Nat.le_refl _
     ·have:=Uh HA j q (by omega) hq; omega)
    have g1:(g:Int) < (p.n:Int):=by omega
    have g2:max (g:Int) (p.n:Int) = (p.n:Int):=by omega
    clear HA HP
    go_wp2_with fail
    exact ⟨⟨i + 1,p.n,by omega,hpn,by simp,by go_num,Uh HA2⟩,by simp [intOf]; omega⟩
   ·have HA2:=Hj (show ∀ j q,j < i + 1 → ps[j]? = some q → q.n ≤ g from fun j q hj hq => by
     by_cases e:j = i
     ·subst e
      rw [Uh HP] at hq
      cases hq
      omega
     ·exact Uh HA j q (by omega) hq)
    have g1:¬ (g:Int) < (p.n:Int):=by omega
    have g2:max (g:Int) (p.n:Int) = (g:Int):=by omega
    clear HA HP
    go_wp2_with fail
    exact ⟨⟨i + 1,g,by omega,hg,by simp,by go_num,Uh HA2⟩,by simp [intOf]; omega⟩
  ·obtain rfl:i = n:=by omega
   have hlt':¬ (i:Int) < (i:Int):=by omega
   obtain ⟨n,rfl⟩:∃ n,n = i:=⟨i,rfl⟩
   obtain ⟨M,hM⟩:∃ M,g + 2 = M:=⟨_,rfl⟩
   have hM1:(g:Int) + 2 = (M:Int):=by omega
   have hmk:=make_len M (by omega)
   have HF:=Hj (Fn.made w M 84)
   have HB:=Hj ((Below.refl w.heap.size w).alloc (Nat.le_refl _) (.cells (madeCells #[.int .u32 0] M) 84))
   have HMe:=Hj hM
   clear hM
   go_wp2_with fail
   go_loopw [25] (fun iv wr => ∃ (i:Nat) (f:Nat → Nat),i ≤ n ∧ iv = .int .i64 (i:Nat) ∧ AaR wr w M ps i f) (fun iv _ => n - (intOf iv).toNat)
   case atStart => exact ⟨0,_,Nat.zero_le _,rfl,Uh HF,fun i hi => by simp,by rw [valF_zero]; simp [sumV],Uh HB⟩
   case round =>
    clear HF HB
    obtain ⟨i,f,hi,rfl,hR⟩:=hrel
    by_cases hlt:i < n
    ·have hlt':(i:Int) < (n:Int):=by omega
     obtain ⟨b,off,p,rfl,hp,hc,hs,ok⟩:=((Uh H).below hR.bel).at' hlt
     have hpg:=Uh HA i p hlt hp
     obtain ⟨b',off',p',e',hp',hc',hs',ok'⟩:=(Uh H).at' hlt
     rw [hp] at hp'
     cases hp'
     have KA:=addTo_any w.heap.size 0 M M p.n p.c p.a f p.xs wr hs (fun x hx hne => by have:=hs'.block_lt hne x hx; omega) (by have:=Uh HMe; omega) (by unfold maxLen; have:=Uh HMe; omega) ok hR.ok hR.fn
     have hsm:=sum_small (i:=i + 1) hn (by omega) (Uh HMe) (sum_bound (Uh H) (Uh HA) (i + 1) (by omega))
     have KA':=Hj KA
     have HS:=Hj (And.intro hsm (And.intro hR.val (And.intro hR.bel (sumV_take hp))))
     clear KA hR hp hs ok hs' ok' hc' e' hsm hpg
     go_wp2_with fail
     refine (Uh KA').mono ?_
     rintro _ w2 ⟨f2,c2,rfl,hc2,fn2,ok2,v2,u2⟩
     have hh:=Uh HS
     have hc0:c2 = 0:=by
      rw [hh.2.1,← hh.2.2.2] at v2
      rcases Nat.eq_zero_or_pos c2 with e | e
      ·exact e
      ·exfalso
       have:4294967296 ^ M * 1 ≤ 4294967296 ^ M * c2:=Nat.mul_le_mul_left _ e
       have:=hh.1
       omega
     subst hc0
     rw [hh.2.1,← hh.2.2.2,Nat.mul_zero,Nat.add_zero] at v2
     have HN:=Hj (show AaR w2 w M ps (i + 1) f2 from ⟨fn2,ok2,v2,hh.2.2.1.trans (u2.below (Nat.le_refl _) hh.2.2.1.size)⟩)
     clear fn2 ok2 v2 u2 hh HS KA' hc2
     go_wp2_with fail
     exact ⟨⟨i + 1,f2,by omega,by go_num,Uh HN⟩,by simp [intOf]; omega⟩
    ·obtain rfl:i = n:=by omega
     have hlt':¬ (i:Int) < (i:Int):=by omega
     have hv:=hR.val
     rw [List.take_of_length_le (by rw [Uh HL]; exact Nat.le_refl _)] at hv
     have KT:=trim_any (some ⟨w.heap.size,0,none⟩) M M (lst f M) wr (hR.fn.sl (Nat.le_refl _) (by unfold maxLen; have:=Uh HMe; omega)) (lst_ok hR.ok)
     rw [lst_val,hv] at KT
     have KT':=Hj KT
     have HB2:=Hj hR.bel
     clear KT hR hv
     go_wp2_with fail
     refine (Uh KT').mono ?_
     rintro _ _ ⟨a',m',ys,rfl,hs,hr,ha,hw⟩
     obtain rfl:=hw.symm
     have HX:=Hj (And.intro hs (And.intro hr ha))
     clear hs hr ha hw KT'
     go_wp2_with fail
     go_ret
     refine ⟨a',m',ys,rfl,(Uh HX).1,(Uh HX).2.1,fun x hx => ?_,Uh HB2⟩
     rcases (Uh HX).2.2 with e | e
     ·rw [e] at hx; cases hx; exact Nat.le_refl _
     ·rw [e] at hx; cases hx

set_option maxHeartbeats 4000000 in
theorem nsum_any (a:Option Addr) (n c:Nat) (ps:List Pc) (w:World) (h:SlL w a n c ps) (hn:n ≤ 140737488355328) :
  Calls Tryz.prog 179 #[.slice a n c] w fun e w' => Res2 w w' (sumL ps) e:=by
 have KA:=nmayAll_any a n c ps w h hn
 cases hm:mayB ps
 ·rw [hm] at KA
  have KA':=Hj KA
  have HR:=Hj (show sumL ps = ([],20) from by unfold sumL; rw [hm]; rfl)
  clear KA hm h
  go_enter Tryz.func179,Tryz.ntmps179
  go_wp2_with fail
  refine (Uh KA').mono ?_
  rintro _ _ ⟨rfl,hw⟩
  obtain rfl:=hw.symm
  clear hw
  go_wp2_with fail
  go_ret2
  rw [Uh HR]
  exact ⟨none,0,0,rfl,sl_nil _,newAt_nil _,Below.refl _ _⟩
 ·rw [hm] at KA
  have KA':=Hj KA
  have HR:=Hj (show sumL ps = fitL (sumV ps) from by unfold sumL; rw [if_pos hm])
  have KS:=Hj (naddAll_any a n c ps w h hn hm)
  clear KA hm h
  go_enter Tryz.func179,Tryz.ntmps179
  go_wp2_with fail
  refine (Uh KA').mono ?_
  rintro _ _ ⟨rfl,hw⟩
  obtain rfl:=hw.symm
  clear hw
  go_wp2_with fail
  refine (Uh KS).mono ?_
  rintro _ w1 ⟨a1,m1,y1,rfl,s1,r1,n1,b1⟩
  have KF:=Hj (fit_any a1 m1 m1 (sumV ps) y1 w1 s1 r1)
  have H1:=Hj (And.intro n1 b1)
  clear s1 r1 n1 b1 KS
  go_wp2_with fail
  refine (Uh KF).mono ?_
  rintro _ _ ⟨a2,m2,c2,rfl,s2,ha2,hw⟩
  obtain rfl:=hw.symm
  have H2:=Hj (And.intro s2 ha2)
  clear s2 ha2 hw KF
  go_wp2_with fail
  go_ret2
  rw [Uh HR]
  refine ⟨a2,m2,c2,rfl,(Uh H2).1,fun x hx => ?_,(Uh H1).2⟩
  rcases (Uh H2).2 with e | e
  ·rw [e] at hx; exact (Uh H1).1 x hx
  ·rw [e] at hx; cases hx
end Go.Proofs.YtmnlhnmlgncedaaGreatDoor
