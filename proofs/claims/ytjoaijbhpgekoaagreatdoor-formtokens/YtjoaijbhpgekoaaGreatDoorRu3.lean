/- Ra6 -/
import Derived.Test.YtjoaijbhpgekoaaGreatDoorFtm
import Derived.Test.YtjoaijbhpgekoaaGreatDoorFt3
import Derived.Test.YtjoaijbhpgekoaaGreatDoorPa2
import Derived.Test.YtjoaijbhpgekoaaGreatDoorNMul
import Derived.Test.YtjoaijbhpgekoaaGreatDoorShN
import Derived.Test.YtjoaijbhpgekoaaGreatDoorShl
import Derived.Test.YtjoaijbhpgekoaaGreatDoorRq0
import Derived.Deep.RegionHeld3
import Derived.Deep.LoopGhost
import Derived.Test.YtjoaijbhpgekoaaGreatDoorMul
import Derived.Test.YtjoaijbhpgekoaaGreatDoorRd1
import Derived.Test.YtjoaijbhpgekoaaGreatDoorRd3
import Derived.Test.YtjoaijbhpgekoaaGreatDoorCopy
import Derived.Test.YtjoaijbhpgekoaaGreatDoorDv7
import Derived.Test.YtjoaijbhpgekoaaGreatDoorGiv2
import Derived.ProofKit
import Derived.OpenShut
import Derived.ShutString
import Derived.ChangeOld
import Derived.SizedLaws
import Derived.Test.YtjoaijbhpgekoaaGreatDoorRp5
import Derived.Deep.Strs
import Derived.ChangeArms
namespace Go.Proofs.YtjoaijbhpgekoaaGreatDoor
open Go.RowKit Go.Deep
set_option linter.unusedVariables false
set_option maxHeartbeats 8000000 in
theorem lowest_any (neg:Bool) (a1 a2:Option Addr) (n1 c1 n2 c2:Nat) (xs ys:List Nat) (w:World) (h1:Sl w a1 n1 c1 xs) (h2:Sl w a2 n2 c2 ys) (ox:Ok xs) (oy:Ok ys) (m1:MayL xs = true) (m2:MayL ys = true) (hy:ys ≠ []) (hT:Tab64 w) :
  Calls Tryz.prog 39 #[.bool neg,.slice a1 n1 c1,.slice a2 n2 c2] w fun e w' => ∃ v,e = .returned v ∧ NewR w w' (neg && decide (xs ≠ [])) (limbs (val xs / Nat.gcd (val xs) (val ys))) (limbs (val ys / Nat.gcd (val xs) (val ys))) v:=by
 obtain ⟨wb,hwb⟩:∃ wb,w.alloc (.cells #[.bool false,.slice none 0 0,.slice none 0 0] 39) = wb:=⟨_,rfl⟩
 have hbb:Below w.heap.size w wb:=by rw [← hwb]; exact bAl
 have hO:Out wb w.heap.size:=by rw [← hwb]; exact Out.made w
 have KD0:=ratDivisor_any a1 a2 n1 c1 n2 c2 xs ys wb (h1.below hbb) (h2.below hbb) ox oy m1 m2 (hT.below hbb)
 have hyp:=val_pos_of_may m2 hy
 have hGp:0 < Nat.gcd (val xs) (val ys):=Nat.gcd_pos_of_pos_right _ hyp
 have hGm:MayL (limbs (Nat.gcd (val xs) (val ys))) = true:=may_small m2 oy (Nat.gcd_le_right _ hyp)
 have hQ1:MayL (limbs (val xs / Nat.gcd (val xs) (val ys))) = true:=may_div m1 ox _
 have hQ2:MayL (limbs (val ys / Nat.gcd (val xs) (val ys))) = true:=may_div m2 oy _
 have hQ0:xs ≠ [] → val xs / Nat.gcd (val xs) (val ys) ≠ 0:=fun hx => by
  have hxp:=val_pos_of_may m1 hx
  have:=Nat.div_pos (Nat.gcd_le_left (val ys) hxp) hGp
  omega
 have hQz:xs = [] → val xs / Nat.gcd (val xs) (val ys) = 0:=fun hx => by rw [hx]; simp [val]
 obtain ⟨G,hG⟩:∃ G,Nat.gcd (val xs) (val ys) = G:=⟨_,rfl⟩
 rw [hG] at KD0 hGp hGm hQ1 hQ2 hQ0 hQz ⊢
 have KD:=Hj KD0
 have HQ:=Hj (And.intro hQ0 hQz)
 have H1:=Hj h1
 have H2:=Hj h2
 have HO:=Hj hO
 have HB:=Hj hbb
 have HM:=Hj (And.intro m1 (And.intro m2 (And.intro hGm (And.intro hQ1 hQ2))))
 clear KD0 h1 h2 hO hbb m1 m2 hT hG hQ0 hQz hyp hQ1 hQ2 hGm
 go_enter Tryz.func39,Tryz.ntmps39
 go_wp2_with fail
 refine (Uh KD).mono ?_
 rintro _ w1 ⟨aG,mG,cG,rfl,sG,nG,bG⟩
 have hb1:=(Uh HB).trans (bG.mono (Uh HB).size)
 have KQ:=ratQuotient_any a1 aG n1 c1 mG cG xs (limbs G) w1 ((Uh H1).below hb1) sG ox (limbs_rep G).ok (Uh HM).1 (Uh HM).2.2.1 (limbs_ne hGp)
 rw [(limbs_rep G).val] at KQ
 have KQ':=Hj KQ
 have SG:=Hj sG
 have HB1:=Hj hb1
 have HO1:=Hj ((Uh HO).keep bG)
 clear KQ sG nG bG hb1 KD HO HB
 go_wp2_with fail
 refine (Uh KQ').mono ?_
 rintro _ w2 ⟨aq,mq,cq,rfl,sq,_,bq⟩
 have hmq:mq ≤ 1000000:=by have:=sq.len; have:=MayL.len (Uh HM).2.2.2.1; omega
 have KC:=Hj (sclone_any aq mq cq _ w2 sq hmq)
 have HB2:=Hj ((Uh HB1).trans (bq.mono (Uh HB1).size))
 have HO2:=Hj ((Uh HO1).keep bq)
 have SG2:=Hj ((Uh SG).below bq)
 clear sq bq KQ' HB1 HO1 SG
 go_wp2_with fail
 refine (Uh KC).mono ?_
 rintro _ w3 ⟨aN,mN,cN,rfl,sN,nN,bN⟩
 have hb3:=(Uh HB2).trans (bN.mono (Uh HB2).size)
 have KQ:=ratQuotient_any a2 aG n2 c2 mG cG ys (limbs G) w3 ((Uh H2).below hb3) ((Uh SG2).below bN) oy (limbs_rep G).ok (Uh HM).2.1 (Uh HM).2.2.1 (limbs_ne hGp)
 rw [(limbs_rep G).val] at KQ
 have KQ':=Hj KQ
 have HB3:=Hj hb3
 have HO3:=Hj ((Uh HO2).keep bN)
 have hN2:NewAt w.heap.size aN:=fun x hx => Nat.le_trans (Uh HB2).size (nN x hx)
 have hNR:∀ x,aN = some x → x.block ≠ w.heap.size:=fun x hx => by have h1:=nN x hx; have h2:=(Uh HO2).lt; omega
 have SN:=Hj (And.intro sN (And.intro hN2 hNR))
 clear KQ sN nN bN hb3 KC HO2 HB2 SG2 hN2 hNR
 go_wp2_with fail
 refine (Uh KQ').mono ?_
 rintro _ w4 ⟨ar,mr,cr,rfl,sr,_,br⟩
 have hmr:mr ≤ 1000000:=by have:=sr.len; have:=MayL.len (Uh HM).2.2.2.2; omega
 have KC:=Hj (sclone_any ar mr cr _ w4 sr hmr)
 have HB4:=Hj ((Uh HB3).trans (br.mono (Uh HB3).size))
 have HO4:=Hj ((Uh HO3).keep br)
 have SN4:=Hj (And.intro ((Uh SN).1.below br) (Uh SN).2)
 clear sr br KQ' HB3 HO3 SN
 go_wp2_with fail
 refine (Uh KC).mono ?_
 rintro _ w5 ⟨aD,mD,cD,rfl,sD,nD,bD⟩
 have HB5:=Hj ((Uh HB4).trans (bD.mono (Uh HB4).size))
 have HO5:=Hj ((Uh HO4).keep bD)
 have SN5:=Hj (And.intro ((Uh SN4).1.below bD) (Uh SN4).2)
 have hD2:NewAt w.heap.size aD:=fun x hx => Nat.le_trans (Uh HB4).size (nD x hx)
 have hDR:∀ x,aD = some x → x.block ≠ w.heap.size:=fun x hx => by have h1:=nD x hx; have h2:=(Uh HO4).lt; omega
 have SD:=Hj (And.intro sD (And.intro hD2 hDR))
 clear sD nD bD KC HO4 HB4 SN4 hD2 hDR
 go_wp2_with fail
 refine (signed_any neg aN aD mN cN mD cD w5).mono ?_
 rintro _ w6 ⟨rfl,b6⟩
 have hO6:=(Uh HO5).keep b6
 obtain ⟨x0,q0⟩:=hO6.cells 0 (by decide)
 obtain ⟨x1,q1⟩:=hO6.cells 1 (by decide)
 obtain ⟨x2,q2⟩:=hO6.cells 2 (by decide)
 have r0:=hO6.fz 0 (by decide)
 have r1:=hO6.fz 1 (by decide)
 have r2:=hO6.fz 2 (by decide)
 obtain ⟨SGN,hSGN⟩:∃ SGN,(neg && decide (0 < mN)) = SGN:=⟨_,rfl⟩
 rw [hSGN]
 have HSG:=Hj hSGN
 have H4:=Hj (three_set w6 w.heap.size (.bool SGN) (.slice aN mN cN) (.slice aD mD cD) hO6.cells)
 have HB6:=Hj b6
 unfold ratV
 clear hO6 b6 hSGN
 go_wp2_with fail
 obtain ⟨p0,p1,p2,c4⟩:=Uh H4
 generalize ((w6.setCell ⟨w.heap.size,0,none⟩ (.bool SGN)).setCell ⟨w.heap.size,1,none⟩ (.slice aN mN cN)).setCell ⟨w.heap.size,2,none⟩ (.slice aD mD cD) = wf at *
 refine bodyPost_ret (by simp [results,Tryz.results39,go_sem,p0,p1,p2]; try rfl) rfl ?_
 have hbf:=(Uh HB5).trans ((Uh HB6).mono (Uh HB5).size)
 refine ⟨_,rfl,aN,mN,cN,aD,mD,cD,ratV_congr ?_,((Uh SN5).1.below (Uh HB6)).chg c4 (fun x hx _ => (Uh SN5).2.2 x hx),((Uh SD).1.below (Uh HB6)).chg c4 (fun x hx _ => (Uh SD).2.2 x hx),(Uh SN5).2.1,(Uh SD).2.1,hbf.trans (c4.below hbf.size (fun k hk => by omega))⟩
 rw [← Uh HSG]
 have hl:=(Uh SN5).1.len
 have:decide (0 < mN) = decide (xs ≠ []):=by
  by_cases e:xs = []
  ·have h0:=(Uh HQ).2 e
   rw [h0] at hl
   simp [limbs_zero] at hl
   subst hl
   simp [e]
  ·have h0:=(Uh HQ).1 e
   have:0 < mN:=by
    rw [← hl]
    exact List.length_pos_iff.2 (limbs_ne (Nat.pos_of_ne_zero h0))
   simp [e,this]
 rw [this]






def dLimbs:Nat:=1024
def wD:Nat:=4294967296 ^ dLimbs
def wv:List Pc → Nat
 | [] => 0
 | p :: ps => val p.xs + wD * wv ps

















def bigN (v:Nat):Bool:=decide (2048 < (limbs v).length)








end Go.Proofs.YtjoaijbhpgekoaaGreatDoor
namespace Go.Proofs.YtjoaijbhpgekoaaGreatDoor
open Go.RowKit Go.Deep
set_option linter.unusedVariables false
open Go.RowKit Go.Deep
set_option linter.unusedVariables false


end Go.Proofs.YtjoaijbhpgekoaaGreatDoor
namespace Go.Proofs.YtjoaijbhpgekoaaGreatDoor
open Go.RowKit Go.Deep
set_option linter.unusedVariables false



end Go.Proofs.YtjoaijbhpgekoaaGreatDoor
namespace Go.Proofs.YtjoaijbhpgekoaaGreatDoor
open Go.ChangeShapes Go.WideShapes Go.ChangeAt Go.RowKit Go.Deep
set_option linter.unusedVariables false
structure Fct where
 p:World → Prop
 st:∀ {w w':World},Below w.heap.size w w' → p w → p w'
structure Tri (w:World) (R:Nat) (v0 v1 v2:Value):Prop where
 c0:w.cell? ⟨R,0,none⟩ = some v0
 c1:w.cell? ⟨R,1,none⟩ = some v1
 c2:w.cell? ⟨R,2,none⟩ = some v2
 f0:w.frozen? ⟨R,0,none⟩ = false
 f1:w.frozen? ⟨R,1,none⟩ = false
 f2:w.frozen? ⟨R,2,none⟩ = false
 lt:R < w.heap.size
def fR (R:Nat) (v0 v1 v2:Value):Fct:=⟨fun w => Tri w R v0 v1 v2,fun k h => h.keep k⟩
theorem law_own:ownKnob Tryz.prog.godebug = none:=by kernel_rfl
end Go.Proofs.YtjoaijbhpgekoaaGreatDoor
namespace Go.Proofs.YtjoaijbhpgekoaaGreatDoor
open Go.RowKit Go.Deep
set_option linter.unusedVariables false

def lowF (neg:Bool) (N D:Nat):(Bool × List Nat × List Nat) × Int :=
 if N = 0 then ((false,[],[1]),0) else if bigN (N / Nat.gcd N D) || bigN (D / Nat.gcd N D) then ((false,[],[]),2) else ((neg,limbs (N / Nat.gcd N D),limbs (D / Nat.gcd N D)),0)





end Go.Proofs.YtjoaijbhpgekoaaGreatDoor
namespace Go.Proofs.YtjoaijbhpgekoaaGreatDoor
open Go.ChangeShapes Go.WideShapes Go.ChangeAt Go.RowKit Go.Deep
set_option linter.unusedVariables false

end Go.Proofs.YtjoaijbhpgekoaaGreatDoor
namespace Go.Proofs.YtjoaijbhpgekoaaGreatDoor
open Go.RowKit Go.Deep
set_option linter.unusedVariables false



theorem NewR.drewQ {w w':World} {g:Bool} {xs ys:List Nat} {v:Value} (h:NewR w w' g xs ys v):NewR w w'.drew g xs ys v:=by
 obtain ⟨a,m,c,b,k,d,e,h1,h2,h3,h4,h5⟩:=h
 exact ⟨a,m,c,b,k,d,e,h1.below (Below.refl _ _).drew,h2.below (Below.refl _ _).drew,h3,h4,h5.drew⟩
theorem ret_Q {w wy:World} {Ro:Nat} {gy:Bool} {ay by_:Option Addr} {ny cy my dy:Nat} {xy yy:List Nat} (hO:Out wy Ro) (hx:Sl wy ay ny cy xy) (hy:Sl wy by_ my dy yy) (na:NewAt (Ro + 1) ay) (nb:NewAt (Ro + 1) by_) (hB:Below w.heap.size w wy) (hR:w.heap.size ≤ Ro) :
  NewR w (((wy.setCell ⟨Ro,0,none⟩ (.bool gy)).setCell ⟨Ro,1,none⟩ (.slice ay ny cy)).setCell ⟨Ro,2,none⟩ (.slice by_ my dy)) gy xy yy (ratV gy ay ny cy by_ my dy):=by
 have c4:=(three_set wy Ro (.bool gy) (.slice ay ny cy) (.slice by_ my dy) hO.cells).2.2.2
 exact ⟨ay,ny,cy,by_,my,dy,rfl,hx.chg c4 (fun p hp _ e => by have:=na p hp; omega),hy.chg c4 (fun p hp _ e => by have:=nb p hp; omega),fun p hp => by have:=na p hp; omega,fun p hp => by have:=nb p hp; omega,hB.trans (c4.below hB.size (fun k hk e => by omega))⟩
end Go.Proofs.YtjoaijbhpgekoaaGreatDoor
