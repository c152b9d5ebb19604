/- Wre -/
import Derived.Test.YtgfpfjghdbcihaaGreatDoorWrd
import Derived.Test.YtgfpfjghdbcihaaGreatDoorWij
import Derived.Test.YtgfpfjghdbcihaaGreatDoorWr4
import Derived.Test.YtgfpfjghdbcihaaGreatDoorFo4
import Derived.Test.YtgfpfjghdbcihaaGreatDoorWiq
import Derived.Deep.RegionHeld3
namespace Go.Proofs.YtgfpfjghdbcihaaGreatDoor
open Go.RowKit Go.Deep
set_option linter.unusedVariables false
def lowF (neg:Bool) (N D:Nat):(Bool × List Nat × List Nat) × Int :=
 if N = 0 then ((false,[],[1]),0) else if bigN (N / Nat.gcd N D) || bigN (D / Nat.gcd N D) then ((false,[],[]),2) else ((neg,limbs (N / Nat.gcd N D),limbs (D / Nat.gcd N D)),0)
def ResF (w w':World) (r:(Bool × List Nat × List Nat) × Int) (e:Ending):Prop:=ResR w w' r.1.1 r.1.2.1 r.1.2.2 r.2 e

theorem Sl.nilc {w:World} {a:Option Addr} {n c:Nat} {xs:List Nat} (h:Sl w a n c xs) (hx:xs ≠ []):a = none → c = 0:=fun e => by
 rcases h.cells with h | ⟨b,off,h,_⟩
 ·exact absurd h hx
 ·rw [e] at h; cases h

set_option maxRecDepth 100000 in
set_option maxHeartbeats 16000000 in
theorem wlower_any (neg:Bool) (a1 a2:Option Addr) (n1 c1 n2 c2:Nat) (xs ys:List Nat) (w:World) (h1:Sl w a1 n1 c1 xs) (h2:Sl w a2 n2 c2 ys) (ox:Ok xs) (oy:Ok ys) (nx:Norm xs) (ny:Norm ys) (hy:ys ≠ []) (hb1:n1 ≤ 10000000) (hb2:n2 ≤ 10000000) :
  Calls Tryz.prog 21 #[.bool neg,.slice a1 n1 c1,.slice a2 n2 c2] w fun e w' => ResF w w' (lowF neg (val xs) (val ys)) e:=by
 obtain ⟨wb,hwb⟩:∃ wb,w.alloc (.cells #[.bool false,.slice none 0 0,.slice none 0 0] 25) = wb:=⟨_,rfl⟩
 have hbb:Below w.heap.size w wb:=by rw [← hwb]; exact bAl
 have hO:Out wb w.heap.size:=by rw [← hwb]; exact Out.made w
 have hz:wb.heap.size = w.heap.size + 1:=by rw [← hwb]; simp
 by_cases hx:xs = []
 ·have hn:n1 = 0:=by rw [← h1.len,hx]; rfl
  subst hn
  have HR:=Hd (show lowF neg (val xs) (val ys) = ((false,[],[1]),0) from by rw [hx]; rfl)
  have HK:=Hd (wzero_any wb)
  have HO:=Hd hO
  have HB:=Hd hbb
  have HZ:=Hd hz
  clear h1 h2 hO hbb hz hx hy nx ny
  go_enter Tryz.func21,Tryz.ntmps21
  go_wp2_with fail
  refine (Uh HK).mono ?_
  rintro _ w3 ⟨_,rfl,aN,mN,cN,aD,mD,cD,rfl,sN,sD,nN,nD,b3⟩
  have HO3:=Hd ((Uh HO).keep b3)
  have HB3:=Hd ((Uh HB).trans (b3.mono (Uh HB).size))
  rw [Uh HZ] at nN nD
  have HS3:=Hd (And.intro sN (And.intro nN (And.intro sD nD)))
  unfold ratV
  clear sN sD nN nD b3 HO HB HK
  have hO3:=Uh HO3
  obtain ⟨x0,q0⟩:=hO3.cells 0 (by decide)
  obtain ⟨x1,q1⟩:=hO3.cells 1 (by decide)
  obtain ⟨x2,q2⟩:=hO3.cells 2 (by decide)
  have r0:=hO3.fz 0 (by decide)
  have r1:=hO3.fz 1 (by decide)
  have r2:=hO3.fz 2 (by decide)
  have H4:=Hd (three_set w3 w.heap.size (.bool false) (.slice aN mN cN) (.slice aD mD cD) hO3.cells)
  clear hO3
  go_wp2_with fail
  obtain ⟨p0,p1,p2,c4⟩:=Uh H4
  generalize ((w3.setCell ⟨w.heap.size,0,none⟩ (.bool false)).setCell ⟨w.heap.size,1,none⟩ (.slice aN mN cN)).setCell ⟨w.heap.size,2,none⟩ (.slice aD mD cD) = wf at *
  refine bodyPost_ret (by simp [results,Tryz.results21,go_sem,p0,p1,p2]; try rfl) rfl ?_
  rw [Uh HR]
  obtain ⟨sN,nN,sD,nD⟩:=Uh HS3
  exact ⟨_,rfl,newR_of (Nat.le_refl _) (Uh HO3).lt (Uh HB3) sN nN sD nD c4 false⟩
 ·have hn1:0 < n1:=by rw [← h1.len]; exact List.length_pos_iff.2 hx
  have t0:((n1:Int) == 0) = false:=by simp; omega
  have hvx:val xs ≠ 0:=val_ne nx hx
  have K:=wgcd_any a1 a2 n1 c1 n2 c2 xs ys wb (h1.below hbb) (h2.below hbb) ox oy nx ny hx hy hb1 hb2
  obtain ⟨G,hG⟩:∃ G,Nat.gcd (val xs) (val ys) = G:=⟨_,rfl⟩
  have hGP:0 < G:=by rw [← hG]; exact Nat.gcd_pos_of_pos_left _ (by omega)
  have hGle:(limbs G).length ≤ n1:=by
   have h9:=limbs_mono (show G ≤ val xs by rw [← hG]; exact Nat.gcd_le_left _ (by omega))
   rw [limbs_of ox nx,h1.len] at h9
   exact h9
  rw [hG] at K
  have HG:=Hd hG
  have HGP:=Hd hGP
  have HK:=Hd K
  have HN0:=Hd hvx
  have HNL:=Hd (And.intro (h1.nilc hx) (h2.nilc hy))
  have LX:=Hd (limbs_of ox nx)
  have LY:=Hd (limbs_of oy ny)
  have NX:=Hd nx
  have NY:=Hd ny
  have H1:=Hd h1
  have H2:=Hd h2
  have HO:=Hd hO
  have HB:=Hd hbb
  have HZ:=Hd hz
  clear h1 h2 hO hbb hz hx hy nx ny K hG hGP hvx
  go_enter Tryz.func21,Tryz.ntmps21
  go_wp2_with fail
  refine (Uh HK).mono ?_
  rintro _ w1 ⟨aG,mG,cG,rfl,sG,nG,hnl,bG⟩
  have hmG0:0 < mG:=by
   rw [← sG.len]
   refine List.length_pos_iff.2 (fun e => ?_)
   have:=limbs_eq_nil.1 e
   have:=Uh HGP
   omega
  have hmG1:mG ≤ n1:=by rw [← sG.len]; exact hGle
  obtain ⟨b4,o4,rfl,hcG⟩:=sG.cells.resolve_left (fun e => by have:=sG.len; rw [e] at this; simp at this; omega)
  have g4:=hcG 0 (by rw [sG.len]; exact hmG0)
  rw [Nat.add_zero] at g4
  have hiff:=limbs_one_iff (G:=G) sG.len
  have bg0:=(limbs_ok G).getD 0
  have hb1w:=(Uh HB).trans (bG.mono (Uh HB).size)
  generalize (limbs G).getD 0 0 = y0 at *
  clear HK
  by_cases hl:mG = 1
  ·have t6:((mG:Int) == 1) = true:=by simp; omega
   by_cases h0:y0 = 1
   ·have t7:((y0:Int) == 1) = true:=by simp; omega
    have HG1:=Hd (show G = 1 from hiff.1 ⟨hl,h0⟩)
    clear hl h0 hiff
    have KC:=Hd (wcopied_any a1 n1 c1 xs w1 ((Uh H1).below hb1w) (Uh HNL).1 (by omega))
    have H2':=Hd ((Uh H2).below hb1w)
    have HO1:=Hd ((Uh HO).keep bG)
    have HB1:=Hd hb1w
    clear sG nG hnl bG hb1w hcG
    go_wp2_with fail
    refine (Uh KC).mono ?_
    rintro _ w2 ⟨aN,cN,rfl,oN,bN⟩
    have KC2:=Hd (wcopied_any a2 n2 c2 ys w2 ((Uh H2').below bN) (Uh HNL).2 (by omega))
    have HO2:=Hd ((Uh HO1).keep bN)
    have HB2:=Hd ((Uh HB1).trans (bN.mono (Uh HB1).size))
    have hzz:=(Uh HO1).lt
    have SN:=Hd (And.intro oN.sl (show NewAt (w.heap.size + 1) aN from fun x hx => by have:=oN.new x hx; omega))
    clear oN bN KC HO1 HB1 H2' hzz
    go_wp2_with fail
    refine (Uh KC2).mono ?_
    rintro _ w3 ⟨aD,cD,rfl,oD,bD⟩
    have HO3:=Hd ((Uh HO2).keep bD)
    have HB3:=Hd ((Uh HB2).trans (bD.mono (Uh HB2).size))
    have hzz:=(Uh HO2).lt
    have hG1:=Uh HG1
    have hS3:Sl w3 aN n1 cN (limbs (val xs / G)) ∧ NewAt (w.heap.size + 1) aN ∧ Sl w3 aD n2 cD (limbs (val ys / G)) ∧ NewAt (w.heap.size + 1) aD:=by
     rw [hG1,Nat.div_one,Nat.div_one,Uh LX,Uh LY]
     exact ⟨(Uh SN).1.below bD,(Uh SN).2,oD.sl,fun x hx => by have:=oD.new x hx; omega⟩
    clear oD bD KC2 HO2 HB2 hzz hG1 SN
    have hmN:=hS3.1.len
    have hmD:=hS3.2.2.1.len
    have HS3:=Hd hS3
    clear hS3
    by_cases hN:2048 < n1
    ·have t1:(2048:Int) < (n1:Int):=by omega
     have HR:=Hd (show lowF neg (val xs) (val ys) = ((false,[],[]),2) from by unfold lowF; rw [if_neg (Uh HN0),if_pos]; simp only [Bool.or_eq_true]; left; unfold bigN; rw [Uh HG,hmN]; exact decide_eq_true hN)
     clear hmN hmD hN
     have hO3:=Uh HO3
     obtain ⟨x0,q0⟩:=hO3.cells 0 (by decide)
     obtain ⟨x1,q1⟩:=hO3.cells 1 (by decide)
     obtain ⟨x2,q2⟩:=hO3.cells 2 (by decide)
     have r0:=hO3.fz 0 (by decide)
     have r1:=hO3.fz 1 (by decide)
     have r2:=hO3.fz 2 (by decide)
     have H4:=Hd (three_set w3 w.heap.size (.bool false) (.slice none 0 0) (.slice none 0 0) hO3.cells)
     clear hO3
     go_wp2_with fail
     obtain ⟨p0,p1,p2,c4⟩:=Uh H4
     generalize ((w3.setCell ⟨w.heap.size,0,none⟩ (.bool false)).setCell ⟨w.heap.size,1,none⟩ (.slice none 0 0)).setCell ⟨w.heap.size,2,none⟩ (.slice none 0 0) = wf at *
     refine bodyPost_ret (by simp [results,Tryz.results21,go_sem,p0,p1,p2]; try rfl) rfl ?_
     rw [Uh HR]
     exact ⟨_,rfl,newR_of (Nat.le_refl _) (Uh HO3).lt (Uh HB3) (sl_nil _) (newAt_nil _) (sl_nil _) (newAt_nil _) c4 false⟩
    ·have t1:¬ (2048:Int) < (n1:Int):=by omega
     by_cases hD:2048 < n2
     ·have t2:(2048:Int) < (n2:Int):=by omega
      have HR:=Hd (show lowF neg (val xs) (val ys) = ((false,[],[]),2) from by unfold lowF; rw [if_neg (Uh HN0),if_pos]; simp only [Bool.or_eq_true]; right; unfold bigN; rw [Uh HG,hmD]; exact decide_eq_true hD)
      clear hmN hmD hN hD
      have hO3:=Uh HO3
      obtain ⟨x0,q0⟩:=hO3.cells 0 (by decide)
      obtain ⟨x1,q1⟩:=hO3.cells 1 (by decide)
      obtain ⟨x2,q2⟩:=hO3.cells 2 (by decide)
      have r0:=hO3.fz 0 (by decide)
      have r1:=hO3.fz 1 (by decide)
      have r2:=hO3.fz 2 (by decide)
      have H4:=Hd (three_set w3 w.heap.size (.bool false) (.slice none 0 0) (.slice none 0 0) hO3.cells)
      clear hO3
      go_wp2_with fail
      obtain ⟨p0,p1,p2,c4⟩:=Uh H4
      generalize ((w3.setCell ⟨w.heap.size,0,none⟩ (.bool false)).setCell ⟨w.heap.size,1,none⟩ (.slice none 0 0)).setCell ⟨w.heap.size,2,none⟩ (.slice none 0 0) = wf at *
      refine bodyPost_ret (by simp [results,Tryz.results21,go_sem,p0,p1,p2]; try rfl) rfl ?_
      rw [Uh HR]
      exact ⟨_,rfl,newR_of (Nat.le_refl _) (Uh HO3).lt (Uh HB3) (sl_nil _) (newAt_nil _) (sl_nil _) (newAt_nil _) c4 false⟩
     ·have t2:¬ (2048:Int) < (n2:Int):=by omega
      have HR:=Hd (show lowF neg (val xs) (val ys) = ((neg,limbs (val xs / G),limbs (val ys / G)),0) from by
       unfold lowF
       rw [if_neg (Uh HN0),if_neg,Uh HG]
       simp only [Bool.or_eq_true,not_or]
       unfold bigN
       rw [Uh HG,hmN,hmD]
       exact ⟨by simpa using hN,by simpa using hD⟩)
      clear hmN hmD hN hD
      have hO3:=Uh HO3
      obtain ⟨x0,q0⟩:=hO3.cells 0 (by decide)
      obtain ⟨x1,q1⟩:=hO3.cells 1 (by decide)
      obtain ⟨x2,q2⟩:=hO3.cells 2 (by decide)
      have r0:=hO3.fz 0 (by decide)
      have r1:=hO3.fz 1 (by decide)
      have r2:=hO3.fz 2 (by decide)
      have H4:=Hd (three_set w3 w.heap.size (.bool neg) (.slice aN n1 cN) (.slice aD n2 cD) hO3.cells)
      clear hO3
      go_wp2_with fail
      obtain ⟨p0,p1,p2,c4⟩:=Uh H4
      generalize ((w3.setCell ⟨w.heap.size,0,none⟩ (.bool neg)).setCell ⟨w.heap.size,1,none⟩ (.slice aN n1 cN)).setCell ⟨w.heap.size,2,none⟩ (.slice aD n2 cD) = wf at *
      refine bodyPost_ret (by simp [results,Tryz.results21,go_sem,p0,p1,p2]; try rfl) rfl ?_
      rw [Uh HR]
      obtain ⟨sN,nN,sD,nD⟩:=Uh HS3
      exact ⟨_,rfl,newR_of (Nat.le_refl _) (Uh HO3).lt (Uh HB3) sN nN sD nD c4 neg⟩
   ·have t7:((y0:Int) == 1) = false:=by simp; omega
    clear hl hiff
    have KD:=wdiv_any a1 _ n1 c1 mG cG xs (limbs G) w1 ((Uh H1).below hb1w) (Uh HNL).1 sG ox (limbs_ok _) (Uh NX) (limbs_norm _) (fun e => by have:=limbs_eq_nil.1 e; have:=Uh HGP; omega) (by omega) (by omega)
    rw [limbs_v] at KD
    have HKD:=Hd KD
    have H2':=Hd ((Uh H2).below hb1w)
    have HO1:=Hd ((Uh HO).keep bG)
    have HB1:=Hd hb1w
    have SG:=Hd sG
    have hcm:mG ≤ 20000000:=by omega
    clear KD sG nG hnl bG hb1w hcG
    go_wp2_with fail
    refine (Uh HKD).mono ?_
    rintro _ w2 ⟨aN,mN,cN,ar,mr,cr,rfl,⟨sN,nN,_⟩,_,bN⟩
    have KD:=wdiv_any a2 _ n2 c2 mG cG ys (limbs G) w2 ((Uh H2').below bN) (Uh HNL).2 ((Uh SG).below bN) oy (limbs_ok _) (Uh NY) (limbs_norm _) (fun e => by have:=limbs_eq_nil.1 e; have:=Uh HGP; omega) (by omega) (by omega)
    rw [limbs_v] at KD
    have HKD2:=Hd KD
    have HO2:=Hd ((Uh HO1).keep bN)
    have HB2:=Hd ((Uh HB1).trans (bN.mono (Uh HB1).size))
    have hzz:=(Uh HO1).lt
    have SN:=Hd (And.intro sN (show NewAt (w.heap.size + 1) aN from fun x hx => by have:=nN x hx; omega))
    clear KD sN nN bN HKD HO1 HB1 H2' hzz SG
    go_wp2_with fail
    refine (Uh HKD2).mono ?_
    rintro _ w3 ⟨aD,mD,cD,ar2,mr2,cr2,rfl,⟨sD,nD,_⟩,_,bD⟩
    have HO3:=Hd ((Uh HO2).keep bD)
    have HB3:=Hd ((Uh HB2).trans (bD.mono (Uh HB2).size))
    have hzz:=(Uh HO2).lt
    have hS3:Sl w3 aN mN cN (limbs (val xs / G)) ∧ NewAt (w.heap.size + 1) aN ∧ Sl w3 aD mD cD (limbs (val ys / G)) ∧ NewAt (w.heap.size + 1) aD:=⟨(Uh SN).1.below bD,(Uh SN).2,sD,fun x hx => by have:=nD x hx; omega⟩
    clear sD nD bD HKD2 HO2 HB2 hzz SN
    have hmN:=hS3.1.len
    have hmD:=hS3.2.2.1.len
    have HS3:=Hd hS3
    clear hS3
    by_cases hN:2048 < mN
    ·have t1:(2048:Int) < (mN:Int):=by omega
     have HR:=Hd (show lowF neg (val xs) (val ys) = ((false,[],[]),2) from by unfold lowF; rw [if_neg (Uh HN0),if_pos]; simp only [Bool.or_eq_true]; left; unfold bigN; rw [Uh HG,hmN]; exact decide_eq_true hN)
     clear hmN hmD hN
     have hO3:=Uh HO3
     obtain ⟨x0,q0⟩:=hO3.cells 0 (by decide)
     obtain ⟨x1,q1⟩:=hO3.cells 1 (by decide)
     obtain ⟨x2,q2⟩:=hO3.cells 2 (by decide)
     have r0:=hO3.fz 0 (by decide)
     have r1:=hO3.fz 1 (by decide)
     have r2:=hO3.fz 2 (by decide)
     have H4:=Hd (three_set w3 w.heap.size (.bool false) (.slice none 0 0) (.slice none 0 0) hO3.cells)
     clear hO3
     go_wp2_with fail
     obtain ⟨p0,p1,p2,c4⟩:=Uh H4
     generalize ((w3.setCell ⟨w.heap.size,0,none⟩ (.bool false)).setCell ⟨w.heap.size,1,none⟩ (.slice none 0 0)).setCell ⟨w.heap.size,2,none⟩ (.slice none 0 0) = wf at *
     refine bodyPost_ret (by simp [results,Tryz.results21,go_sem,p0,p1,p2]; try rfl) rfl ?_
     rw [Uh HR]
     exact ⟨_,rfl,newR_of (Nat.le_refl _) (Uh HO3).lt (Uh HB3) (sl_nil _) (newAt_nil _) (sl_nil _) (newAt_nil _) c4 false⟩
    ·have t1:¬ (2048:Int) < (mN:Int):=by omega
     by_cases hD:2048 < mD
     ·have t2:(2048:Int) < (mD:Int):=by omega
      have HR:=Hd (show lowF neg (val xs) (val ys) = ((false,[],[]),2) from by unfold lowF; rw [if_neg (Uh HN0),if_pos]; simp only [Bool.or_eq_true]; right; unfold bigN; rw [Uh HG,hmD]; exact decide_eq_true hD)
      clear hmN hmD hN hD
      have hO3:=Uh HO3
      obtain ⟨x0,q0⟩:=hO3.cells 0 (by decide)
      obtain ⟨x1,q1⟩:=hO3.cells 1 (by decide)
      obtain ⟨x2,q2⟩:=hO3.cells 2 (by decide)
      have r0:=hO3.fz 0 (by decide)
      have r1:=hO3.fz 1 (by decide)
      have r2:=hO3.fz 2 (by decide)
      have H4:=Hd (three_set w3 w.heap.size (.bool false) (.slice none 0 0) (.slice none 0 0) hO3.cells)
      clear hO3
      go_wp2_with fail
      obtain ⟨p0,p1,p2,c4⟩:=Uh H4
      generalize ((w3.setCell ⟨w.heap.size,0,none⟩ (.bool false)).setCell ⟨w.heap.size,1,none⟩ (.slice none 0 0)).setCell ⟨w.heap.size,2,none⟩ (.slice none 0 0) = wf at *
      refine bodyPost_ret (by simp [results,Tryz.results21,go_sem,p0,p1,p2]; try rfl) rfl ?_
      rw [Uh HR]
      exact ⟨_,rfl,newR_of (Nat.le_refl _) (Uh HO3).lt (Uh HB3) (sl_nil _) (newAt_nil _) (sl_nil _) (newAt_nil _) c4 false⟩
     ·have t2:¬ (2048:Int) < (mD:Int):=by omega
      have HR:=Hd (show lowF neg (val xs) (val ys) = ((neg,limbs (val xs / G),limbs (val ys / G)),0) from by
       unfold lowF
       rw [if_neg (Uh HN0),if_neg,Uh HG]
       simp only [Bool.or_eq_true,not_or]
       unfold bigN
       rw [Uh HG,hmN,hmD]
       exact ⟨by simpa using hN,by simpa using hD⟩)
      clear hmN hmD hN hD
      have hO3:=Uh HO3
      obtain ⟨x0,q0⟩:=hO3.cells 0 (by decide)
      obtain ⟨x1,q1⟩:=hO3.cells 1 (by decide)
      obtain ⟨x2,q2⟩:=hO3.cells 2 (by decide)
      have r0:=hO3.fz 0 (by decide)
      have r1:=hO3.fz 1 (by decide)
      have r2:=hO3.fz 2 (by decide)
      have H4:=Hd (three_set w3 w.heap.size (.bool neg) (.slice aN mN cN) (.slice aD mD cD) hO3.cells)
      clear hO3
      go_wp2_with fail
      obtain ⟨p0,p1,p2,c4⟩:=Uh H4
      generalize ((w3.setCell ⟨w.heap.size,0,none⟩ (.bool neg)).setCell ⟨w.heap.size,1,none⟩ (.slice aN mN cN)).setCell ⟨w.heap.size,2,none⟩ (.slice aD mD cD) = wf at *
      refine bodyPost_ret (by simp [results,Tryz.results21,go_sem,p0,p1,p2]; try rfl) rfl ?_
      rw [Uh HR]
      obtain ⟨sN,nN,sD,nD⟩:=Uh HS3
      exact ⟨_,rfl,newR_of (Nat.le_refl _) (Uh HO3).lt (Uh HB3) sN nN sD nD c4 neg⟩
  ·have t6:((mG:Int) == 1) = false:=by simp; omega
   clear hl hiff
   have KD:=wdiv_any a1 _ n1 c1 mG cG xs (limbs G) w1 ((Uh H1).below hb1w) (Uh HNL).1 sG ox (limbs_ok _) (Uh NX) (limbs_norm _) (fun e => by have:=limbs_eq_nil.1 e; have:=Uh HGP; omega) (by omega) (by omega)
   rw [limbs_v] at KD
   have HKD:=Hd KD
   have H2':=Hd ((Uh H2).below hb1w)
   have HO1:=Hd ((Uh HO).keep bG)
   have HB1:=Hd hb1w
   have SG:=Hd sG
   have hcm:mG ≤ 20000000:=by omega
   clear KD sG nG hnl bG hb1w hcG
   go_wp2_with fail
   refine (Uh HKD).mono ?_
   rintro _ w2 ⟨aN,mN,cN,ar,mr,cr,rfl,⟨sN,nN,_⟩,_,bN⟩
   have KD:=wdiv_any a2 _ n2 c2 mG cG ys (limbs G) w2 ((Uh H2').below bN) (Uh HNL).2 ((Uh SG).below bN) oy (limbs_ok _) (Uh NY) (limbs_norm _) (fun e => by have:=limbs_eq_nil.1 e; have:=Uh HGP; omega) (by omega) (by omega)
   rw [limbs_v] at KD
   have HKD2:=Hd KD
   have HO2:=Hd ((Uh HO1).keep bN)
   have HB2:=Hd ((Uh HB1).trans (bN.mono (Uh HB1).size))
   have hzz:=(Uh HO1).lt
   have SN:=Hd (And.intro sN (show NewAt (w.heap.size + 1) aN from fun x hx => by have:=nN x hx; omega))
   clear KD sN nN bN HKD HO1 HB1 H2' hzz SG
   go_wp2_with fail
   refine (Uh HKD2).mono ?_
   rintro _ w3 ⟨aD,mD,cD,ar2,mr2,cr2,rfl,⟨sD,nD,_⟩,_,bD⟩
   have HO3:=Hd ((Uh HO2).keep bD)
   have HB3:=Hd ((Uh HB2).trans (bD.mono (Uh HB2).size))
   have hzz:=(Uh HO2).lt
   have hS3:Sl w3 aN mN cN (limbs (val xs / G)) ∧ NewAt (w.heap.size + 1) aN ∧ Sl w3 aD mD cD (limbs (val ys / G)) ∧ NewAt (w.heap.size + 1) aD:=⟨(Uh SN).1.below bD,(Uh SN).2,sD,fun x hx => by have:=nD x hx; omega⟩
   clear sD nD bD HKD2 HO2 HB2 hzz SN
   have hmN:=hS3.1.len
   have hmD:=hS3.2.2.1.len
   have HS3:=Hd hS3
   clear hS3
   by_cases hN:2048 < mN
   ·have t1:(2048:Int) < (mN:Int):=by omega
    have HR:=Hd (show lowF neg (val xs) (val ys) = ((false,[],[]),2) from by unfold lowF; rw [if_neg (Uh HN0),if_pos]; simp only [Bool.or_eq_true]; left; unfold bigN; rw [Uh HG,hmN]; exact decide_eq_true hN)
    clear hmN hmD hN
    have hO3:=Uh HO3
    obtain ⟨x0,q0⟩:=hO3.cells 0 (by decide)
    obtain ⟨x1,q1⟩:=hO3.cells 1 (by decide)
    obtain ⟨x2,q2⟩:=hO3.cells 2 (by decide)
    have r0:=hO3.fz 0 (by decide)
    have r1:=hO3.fz 1 (by decide)
    have r2:=hO3.fz 2 (by decide)
    have H4:=Hd (three_set w3 w.heap.size (.bool false) (.slice none 0 0) (.slice none 0 0) hO3.cells)
    clear hO3
    go_wp2_with fail
    obtain ⟨p0,p1,p2,c4⟩:=Uh H4
    generalize ((w3.setCell ⟨w.heap.size,0,none⟩ (.bool false)).setCell ⟨w.heap.size,1,none⟩ (.slice none 0 0)).setCell ⟨w.heap.size,2,none⟩ (.slice none 0 0) = wf at *
    refine bodyPost_ret (by simp [results,Tryz.results21,go_sem,p0,p1,p2]; try rfl) rfl ?_
    rw [Uh HR]
    exact ⟨_,rfl,newR_of (Nat.le_refl _) (Uh HO3).lt (Uh HB3) (sl_nil _) (newAt_nil _) (sl_nil _) (newAt_nil _) c4 false⟩
   ·have t1:¬ (2048:Int) < (mN:Int):=by omega
    by_cases hD:2048 < mD
    ·have t2:(2048:Int) < (mD:Int):=by omega
     have HR:=Hd (show lowF neg (val xs) (val ys) = ((false,[],[]),2) from by unfold lowF; rw [if_neg (Uh HN0),if_pos]; simp only [Bool.or_eq_true]; right; unfold bigN; rw [Uh HG,hmD]; exact decide_eq_true hD)
     clear hmN hmD hN hD
     have hO3:=Uh HO3
     obtain ⟨x0,q0⟩:=hO3.cells 0 (by decide)
     obtain ⟨x1,q1⟩:=hO3.cells 1 (by decide)
     obtain ⟨x2,q2⟩:=hO3.cells 2 (by decide)
     have r0:=hO3.fz 0 (by decide)
     have r1:=hO3.fz 1 (by decide)
     have r2:=hO3.fz 2 (by decide)
     have H4:=Hd (three_set w3 w.heap.size (.bool false) (.slice none 0 0) (.slice none 0 0) hO3.cells)
     clear hO3
     go_wp2_with fail
     obtain ⟨p0,p1,p2,c4⟩:=Uh H4
     generalize ((w3.setCell ⟨w.heap.size,0,none⟩ (.bool false)).setCell ⟨w.heap.size,1,none⟩ (.slice none 0 0)).setCell ⟨w.heap.size,2,none⟩ (.slice none 0 0) = wf at *
     refine bodyPost_ret (by simp [results,Tryz.results21,go_sem,p0,p1,p2]; try rfl) rfl ?_
     rw [Uh HR]
     exact ⟨_,rfl,newR_of (Nat.le_refl _) (Uh HO3).lt (Uh HB3) (sl_nil _) (newAt_nil _) (sl_nil _) (newAt_nil _) c4 false⟩
    ·have t2:¬ (2048:Int) < (mD:Int):=by omega
     have HR:=Hd (show lowF neg (val xs) (val ys) = ((neg,limbs (val xs / G),limbs (val ys / G)),0) from by
      unfold lowF
      rw [if_neg (Uh HN0),if_neg,Uh HG]
      simp only [Bool.or_eq_true,not_or]
      unfold bigN
      rw [Uh HG,hmN,hmD]
      exact ⟨by simpa using hN,by simpa using hD⟩)
     clear hmN hmD hN hD
     have hO3:=Uh HO3
     obtain ⟨x0,q0⟩:=hO3.cells 0 (by decide)
     obtain ⟨x1,q1⟩:=hO3.cells 1 (by decide)
     obtain ⟨x2,q2⟩:=hO3.cells 2 (by decide)
     have r0:=hO3.fz 0 (by decide)
     have r1:=hO3.fz 1 (by decide)
     have r2:=hO3.fz 2 (by decide)
     have H4:=Hd (three_set w3 w.heap.size (.bool neg) (.slice aN mN cN) (.slice aD mD cD) hO3.cells)
     clear hO3
     go_wp2_with fail
     obtain ⟨p0,p1,p2,c4⟩:=Uh H4
     generalize ((w3.setCell ⟨w.heap.size,0,none⟩ (.bool neg)).setCell ⟨w.heap.size,1,none⟩ (.slice aN mN cN)).setCell ⟨w.heap.size,2,none⟩ (.slice aD mD cD) = wf at *
     refine bodyPost_ret (by simp [results,Tryz.results21,go_sem,p0,p1,p2]; try rfl) rfl ?_
     rw [Uh HR]
     obtain ⟨sN,nN,sD,nD⟩:=Uh HS3
     exact ⟨_,rfl,newR_of (Nat.le_refl _) (Uh HO3).lt (Uh HB3) sN nN sD nD c4 neg⟩
set_option maxHeartbeats 4000000 in
theorem wmulw_any (a1 a2:Option Addr) (n1 c1 n2 c2:Nat) (xs ys:List Nat) (w:World) (h1:Sl w a1 n1 c1 xs) (h2:Sl w a2 n2 c2 ys) (ox:Ok xs) (oy:Ok ys) (hb:n1 + n2 ≤ 1000000000) :
  Calls Tryz.prog 93 #[.slice a1 n1 c1,.slice a2 n2 c2] w fun e w' => NewL w w' (val xs * val ys) e:=by
 have hmk:=make_sum n1 n2 (by omega)
 have bel0:=(Below.refl w.heap.size w).alloc (Nat.le_refl _) (.cells (madeCells #[.int .u32 0] (n1 + n2)) 66)
 have HL1:=Hd h1.len
 have HL2:=Hd h2.len
 have HN1:=Hd (fun (hne:xs ≠ []) => h1.block_lt hne)
 have HN2:=Hd (fun (hne:ys ≠ []) => h2.block_lt hne)
 have S1:=Hd (h1.below bel0)
 have S2:=Hd (h2.below bel0)
 have HB:=Hd bel0
 have hR0:RowsR (w.alloc (.cells (madeCells #[.int .u32 0] (n1 + n2)) 66)) (w.alloc (.cells (madeCells #[.int .u32 0] (n1 + n2)) 66)) w.heap.size 0 (n1 + n2) ys xs 0 (fun _ => 0):=⟨Fn.made w (n1 + n2) 66,fun _ _ => by decide,fun _ _ _ => rfl,by simp [valF,valF_zero],Upd.refl _ _ _ _⟩
 have HR0:=Hd hR0
 clear h1 h2 bel0 hR0
 go_enter Tryz.func93,Tryz.ntmps93
 go_wp2_with fail
 generalize hw0:(w.alloc (.cells (madeCells #[.int .u32 0] (n1 + n2)) 66)) = w0 at *
 have HW0:=Hd hw0
 clear hw0
 go_loopw [6] (fun i wr => ∃ k:Nat,∃ f:Nat → Nat,k ≤ n1 ∧ i = .int .i64 k ∧ RowsR wr w0 w.heap.size 0 (n1 + n2) ys xs k f) (fun i _ => n1 - (intOf i).toNat)
 case atStart => exact ⟨0,_,Nat.zero_le _,rfl,Uh HR0⟩
 case round =>
  clear HR0
  obtain ⟨k,f,hk,rfl,hR⟩:=hrel
  by_cases hlt:k < n1
  ·have hlt':(k:Int) < (n1:Int):=by omega
   have hX:=ox.getD k
   have hxne:xs ≠ []:=by intro e; have:=Uh HL1; rw [e] at this; simp at this; omega
   obtain ⟨b1,o1,rfl,hx⟩:=(Uh S1).cells.resolve_left hxne
   have hb1:b1 < w.heap.size:=Uh HN1 hxne _ rfl
   have HX1:=Hd hx
   obtain ⟨wo,rfl⟩:∃ wo:World,wo = wr:=⟨_,rfl⟩
   have HR:=Hd hR
   clear hR hx hxne S1 HN1
   go_wp2_with fail
   go_loopw [7,8] (fun cv jv wr => ∃ j c:Nat,∃ g:Nat → Nat,j ≤ n2 ∧ jv = .int .i64 j ∧ cv = .int .u64 (c:Nat) ∧ RowR wr w0 w.heap.size 0 (n1 + n2) f k (xs.getD k 0) ys j c g) (fun _ jv _ => n2 - (intOf jv).toNat)
   case atStart => exact ⟨0,0,f,Nat.zero_le _,rfl,rfl,(Uh HR).begin _⟩
   case round =>
    obtain ⟨j,c,g,hj,rfl,rfl,hQ⟩:=hrel
    have hc0:=hQ.cle
    by_cases hjl:j < n2
    ·have hjl':(j:Int) < (n2:Int):=by omega
     have hjl2:(k:Int) + (j:Int) < (n1:Int) + (n2:Int):=by omega
     have hyne:ys ≠ []:=by intro e; have:=Uh HL2; rw [e] at this; simp at this; omega
     obtain ⟨b2,o2,rfl,hy⟩:=(Uh S2).cells.resolve_left hyne
     have hb2:b2 < w.heap.size:=Uh HN2 hyne _ rfl
     have g1:=hQ.upd.cells (Uh HX1) (.inl (by omega)) k (by rw [Uh HL1]; exact hlt)
     have g2:=hQ.upd.cells hy (.inl (by omega)) j (by rw [Uh HL2]; exact hjl)
     have g3:=(hQ.fn (k + j) (by omega)).1
     have g4:=(hQ.fn (k + j) (by omega)).2
     rw [Nat.zero_add] at g3 g4
     have by':=oy.getD j
     have br:=hQ.ok (k + j) (by omega)
     have HS0:=hQ.step (by omega) by' hX
     rw [Nat.zero_add] at HS0
     have HS:=Hd HS0
     clear HS0
     have mb:((xs.getD k 0:Nat):Int) * ((ys.getD j 0:Nat):Int) ≤ 18446744065119617025:=by
      have:=mul_bound hX by'
      rw [← Int.natCast_mul]; omega
     have mb0:0 ≤ ((xs.getD k 0:Nat):Int) * ((ys.getD j 0:Nat):Int):=Int.mul_nonneg (by omega) (by omega)
     have e1:=mdl_int (ys.getD j 0) (xs.getD k 0) (g (k + j)) c
     have e2:=mdh_int (ys.getD j 0) (xs.getD k 0) (g (k + j)) c
     rw [Int.mul_comm] at e1 e2
     have e0:(c:Int) + ((xs.getD k 0:Nat):Int) * ((ys.getD j 0:Nat):Int) + (g (k + j):Nat) = ((xs.getD k 0:Nat):Int) * ((ys.getD j 0:Nat):Int) + (g (k + j):Nat) + c:=by omega
     rw [← e0] at e1 e2
     clear e0
     generalize ys.getD j 0 = y at g2 by' HS mb mb0 e1 e2
     generalize hyy:xs.getD k 0 = x at g1 HS mb mb0 e1 e2 hX
     have HY:=Hd hyy
     generalize g (k + j) = r at g3 br HS e1 e2
     clear hQ hyy hy hyne S2 HN2
     go_wp2_with fail
     go_quiet (fail)
     go_wp2
     exact ⟨⟨j + 1,_,_,by omega,by go_num,rfl,(Uh HS).drewN _⟩,by simp [intOf]; omega⟩
    ·have hjn:j = n2:=by omega
     subst hjn
     have hjl':¬ (j:Int) < (j:Int):=by omega
     have hjl3:(k:Int) + (j:Int) < (n1:Int) + (j:Int):=by omega
     have g3:=(hQ.fn (k + j) (by omega)).1
     have g4:=(hQ.fn (k + j) (by omega)).2
     rw [Nat.zero_add] at g3 g4
     have HS:=rows_step (Uh HL2) (Uh HR) hQ (by omega)
     rw [Nat.zero_add] at HS
     have HS':=Hd HS
     generalize ((g (k + j):Nat):Int) = r at g3
     clear hQ HS HR
     go_wp2
     exact ⟨⟨k + 1,_,by omega,by go_num,Uh HS'⟩,by simp [intOf]; omega⟩
  ·have hkn:k = n1:=by omega
   have hv:valF f (n1 + n2) = val xs * val ys:=by
    have hv:=hR.val
    rw [hkn,Uh HL2] at hv
    rw [hv,← Uh HL1,valF_list,Nat.mul_comm]
   have HR:=Hd (And.intro hR hv)
   clear hR hv hkn
   have K:=wnorm_sl (some ⟨w.heap.size,0,none⟩) (n1 + n2) (n1 + n2) _ wr ((Uh HR).1.fn.sl (Nat.le_refl _) (by unfold maxLen; omega)) (by intro e; cases e) (lst_ok (Uh HR).1.ok)
   rw [lst_val,(Uh HR).2] at K
   have HK:=Hd K
   clear K
   go_wp2_with fail
   refine (Uh HK).mono ?_
   rintro e w' ⟨m,rfl,hm,hO,hw⟩
   obtain rfl:=hw.symm
   have HO:=Hd hO
   clear hO hw HK
   go_wp2_with fail
   go_ret
   exact ⟨_,_,_,rfl,Uh HO,fun x hx => by cases hx; exact Nat.le_refl _,(by intro e; cases e),(Uh HB).trans ((Uh HR).1.upd.below (Nat.le_refl _) (Uh HB).size)⟩
theorem mul_len {x y:List Nat} (ox:Ok x) (oy:Ok y):(limbs (val x * val y)).length ≤ x.length + y.length:=by
 refine limbs_len ?_
 rw [Nat.pow_add]
 have h1:=val_lt ox
 have h2:=val_lt oy
 rcases Nat.eq_zero_or_pos (val y) with h | h
 ·rw [h,Nat.mul_zero]; exact Nat.mul_pos (pow_pos _) (pow_pos _)
 ·exact Nat.lt_of_lt_of_le (Nat.mul_lt_mul_of_pos_right h1 h) (Nat.mul_le_mul_left _ (Nat.le_of_lt h2))

theorem lowF_is {g sg:Bool} {P Q N M:Nat} (hl:Nat.gcd N M = 1) (hM:0 < M) (hQ:0 < Q) (h:nI sg N * (Q:Int) = nI g P * (M:Int)) :
  lowF g P Q = if bigN N || bigN M then ((false,[],[]),2) else ((sg && decide (N ≠ 0),limbs N,limbs M),0):=by
 unfold lowF
 by_cases hP:P = 0
 ·rw [if_pos hP]
  have hz:nI g P = 0:=by rw [hP]; unfold nI; split <;> rfl
  rw [hz,Int.zero_mul] at h
  have hN:N = 0:=by
   rcases Int.mul_eq_zero.1 h with e | e
   ·unfold nI at e; split at e <;> omega
   ·omega
  subst hN
  have hM1:M = 1:=by rw [Nat.gcd_zero_left] at hl; exact hl
  subst hM1
  have e1:bigN 0 = false:=rfl
  have e2:bigN 1 = false:=rfl
  rw [e1,e2]
  simp
  exact ⟨rfl,rfl⟩
 ·rw [if_neg hP]
  have hG:0 < Nat.gcd P Q:=Nat.gcd_pos_of_pos_right _ hQ
  have eP:=div_of (Nat.gcd_dvd_left P Q)
  have eQ:=div_of (Nat.gcd_dvd_right P Q)
  have hq:0 < Q / Nat.gcd P Q:=div_pos_of_dvd (Nat.gcd_dvd_right _ _) hQ
  have hp:P / Nat.gcd P Q ≠ 0:=fun e => hP (by rw [eP,e,Nat.zero_mul])
  have key:nI (sg && decide (N ≠ 0)) N * ((Q / Nat.gcd P Q:Nat):Int) = nI g (P / Nat.gcd P Q) * (M:Int):=by
   rw [nI_and]
   have h2:nI sg N * ((Q / Nat.gcd P Q * Nat.gcd P Q:Nat):Int) = nI g (P / Nat.gcd P Q * Nat.gcd P Q) * (M:Int):=by rw [← eP,← eQ]; exact h
   rw [nI_mul] at h2
   generalize Nat.gcd P Q = G at *
   generalize Q / G = q at *
   generalize P / G = p at *
   have h3:(nI sg N * (q:Int)) * (G:Int) = (nI g p * (M:Int)) * (G:Int):=by
    rw [Int.mul_assoc,← Int.natCast_mul,h2,Int.mul_right_comm]
   exact Int.eq_of_mul_eq_mul_right (by omega) h3
  obtain ⟨r1,r2,r3⟩:=low_one hl (cop_quot hQ) hM hq (by intro e; simp at e; exact e.2) (fun _ => hp) key
  rw [← r2,← r3,← r1]
end Go.Proofs.YtgfpfjghdbcihaaGreatDoor
