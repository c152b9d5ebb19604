/- Wre -/
import Derived.Test.YtlolnaegfponeaaGreatDoorGiv3
import Derived.Test.YtlolnaegfponeaaGreatDoorWif
namespace Go.Proofs.YtlolnaegfponeaaGreatDoor
open Go.RowKit Go.Deep
set_option linter.unusedVariables false
def lowF (neg:Bool) (N D:Nat):(Bool × List Nat × List Nat) × Int :=
 if N = 0 then ((false,[],[1]),0) else if bigN (N / Nat.gcd N D) || bigN (D / Nat.gcd N D) then ((false,[],[]),2) else ((neg,limbs (N / Nat.gcd N D),limbs (D / Nat.gcd N D)),0)
def ResF (w w':World) (r:(Bool × List Nat × List Nat) × Int) (e:Ending):Prop:=ResR w w' r.1.1 r.1.2.1 r.1.2.2 r.2 e

theorem Sl.nilc {w:World} {a:Option Addr} {n c:Nat} {xs:List Nat} (h:Sl w a n c xs) (hx:xs ≠ []):a = none → c = 0:=fun e => by
 rcases h.cells with h | ⟨b,off,h,_⟩
 ·exact absurd h hx
 ·rw [e] at h; cases h

set_option maxRecDepth 100000 in
set_option maxHeartbeats 16000000 in
theorem wlower_any (neg:Bool) (a1 a2:Option Addr) (n1 c1 n2 c2:Nat) (xs ys:List Nat) (w:World) (h1:Sl w a1 n1 c1 xs) (h2:Sl w a2 n2 c2 ys) (ox:Ok xs) (oy:Ok ys) (nx:Norm xs) (ny:Norm ys) (hy:ys ≠ []) (hb1:n1 ≤ 10000000) (hb2:n2 ≤ 10000000) :
  Calls Tryz.prog 54 #[.bool neg,.slice a1 n1 c1,.slice a2 n2 c2] w fun e w' => ResF w w' (lowF neg (val xs) (val ys)) e:=by
 obtain ⟨wb,hwb⟩:∃ wb,w.alloc (.cells #[.bool false,.slice none 0 0,.slice none 0 0] 25) = wb:=⟨_,rfl⟩
 have hbb:Below w.heap.size w wb:=by rw [← hwb]; exact bAl
 have hO:Out wb w.heap.size:=by rw [← hwb]; exact Out.made w
 have hz:wb.heap.size = w.heap.size + 1:=by rw [← hwb]; simp
 by_cases hx:xs = []
 ·have hn:n1 = 0:=by rw [← h1.len,hx]; rfl
  subst hn
  have HR:=Hd (show lowF neg (val xs) (val ys) = ((false,[],[1]),0) from by rw [hx]; rfl)
  have HK:=Hd (wzero_any wb)
  have HO:=Hd hO
  have HB:=Hd hbb
  have HZ:=Hd hz
  clear h1 h2 hO hbb hz hx hy nx ny
  go_enter Tryz.func54,Tryz.ntmps54
  go_wp2_with fail
  refine (Uh HK).mono ?_
  rintro _ w3 ⟨_,rfl,aN,mN,cN,aD,mD,cD,rfl,sN,sD,nN,nD,b3⟩
  have HO3:=Hd ((Uh HO).keep b3)
  have HB3:=Hd ((Uh HB).trans (b3.mono (Uh HB).size))
  rw [Uh HZ] at nN nD
  have HS3:=Hd (And.intro sN (And.intro nN (And.intro sD nD)))
  unfold ratV
  clear sN sD nN nD b3 HO HB HK
  have hO3:=Uh HO3
  obtain ⟨x0,q0⟩:=hO3.cells 0 (by decide)
  obtain ⟨x1,q1⟩:=hO3.cells 1 (by decide)
  obtain ⟨x2,q2⟩:=hO3.cells 2 (by decide)
  have r0:=hO3.fz 0 (by decide)
  have r1:=hO3.fz 1 (by decide)
  have r2:=hO3.fz 2 (by decide)
  have H4:=Hd (three_set w3 w.heap.size (.bool false) (.slice aN mN cN) (.slice aD mD cD) hO3.cells)
  clear hO3
  go_wp2_with fail
  obtain ⟨p0,p1,p2,c4⟩:=Uh H4
  generalize ((w3.setCell ⟨w.heap.size,0,none⟩ (.bool false)).setCell ⟨w.heap.size,1,none⟩ (.slice aN mN cN)).setCell ⟨w.heap.size,2,none⟩ (.slice aD mD cD) = wf at *
  refine bodyPost_ret (by simp [results,Tryz.results54,go_sem,p0,p1,p2]; try rfl) rfl ?_
  rw [Uh HR]
  obtain ⟨sN,nN,sD,nD⟩:=Uh HS3
  exact ⟨_,rfl,newR_of (Nat.le_refl _) (Uh HO3).lt (Uh HB3) sN nN sD nD c4 false⟩
 ·have hn1:0 < n1:=by rw [← h1.len]; exact List.length_pos_iff.2 hx
  have t0:((n1:Int) == 0) = false:=by simp; omega
  have hvx:val xs ≠ 0:=val_ne nx hx
  have K:=wgcd_any a1 a2 n1 c1 n2 c2 xs ys wb (h1.below hbb) (h2.below hbb) ox oy nx ny hx hy hb1 hb2
  obtain ⟨G,hG⟩:∃ G,Nat.gcd (val xs) (val ys) = G:=⟨_,rfl⟩
  have hGP:0 < G:=by rw [← hG]; exact Nat.gcd_pos_of_pos_left _ (by omega)
  have hGle:(limbs G).length ≤ n1:=by
   have h9:=limbs_mono (show G ≤ val xs by rw [← hG]; exact Nat.gcd_le_left _ (by omega))
   rw [limbs_of ox nx,h1.len] at h9
   exact h9
  rw [hG] at K
  have HG:=Hd hG
  have HGP:=Hd hGP
  have HK:=Hd K
  have HN0:=Hd hvx
  have HNL:=Hd (And.intro (h1.nilc hx) (h2.nilc hy))
  have LX:=Hd (limbs_of ox nx)
  have LY:=Hd (limbs_of oy ny)
  have NX:=Hd nx
  have NY:=Hd ny
  have H1:=Hd h1
  have H2:=Hd h2
  have HO:=Hd hO
  have HB:=Hd hbb
  have HZ:=Hd hz
  clear h1 h2 hO hbb hz hx hy nx ny K hG hGP hvx
  go_enter Tryz.func54,Tryz.ntmps54
  go_wp2_with fail
  refine (Uh HK).mono ?_
  rintro _ w1 ⟨aG,mG,cG,rfl,sG,nG,hnl,bG⟩
  have hmG0:0 < mG:=by
   rw [← sG.len]
   refine List.length_pos_iff.2 (fun e => ?_)
   have:=limbs_eq_nil.1 e
   have:=Uh HGP
   omega
  have hmG1:mG ≤ n1:=by rw [← sG.len]; exact hGle
  obtain ⟨b4,o4,rfl,hcG⟩:=sG.cells.resolve_left (fun e => by have:=sG.len; rw [e] at this; simp at this; omega)
  have g4:=hcG 0 (by rw [sG.len]; exact hmG0)
  rw [Nat.add_zero] at g4
  have hiff:=limbs_one_iff (G:=G) sG.len
  have bg0:=(limbs_ok G).getD 0
  have hb1w:=(Uh HB).trans (bG.mono (Uh HB).size)
  generalize (limbs G).getD 0 0 = y0 at *
  clear HK
  by_cases hl:mG = 1
  ·have t6:((mG:Int) == 1) = true:=by simp; omega
   by_cases h0:y0 = 1
   ·have t7:((y0:Int) == 1) = true:=by simp; omega
    have HG1:=Hd (show G = 1 from hiff.1 ⟨hl,h0⟩)
    clear hl h0 hiff
    have KC:=Hd (wcopied_any a1 n1 c1 xs w1 ((Uh H1).below hb1w) (Uh HNL).1 (by omega))
    have H2':=Hd ((Uh H2).below hb1w)
    have HO1:=Hd ((Uh HO).keep bG)
    have HB1:=Hd hb1w
    clear sG nG hnl bG hb1w hcG
    go_wp2_with fail
    refine (Uh KC).mono ?_
    rintro _ w2 ⟨aN,cN,rfl,oN,bN⟩
    have KC2:=Hd (wcopied_any a2 n2 c2 ys w2 ((Uh H2').below bN) (Uh HNL).2 (by omega))
    have HO2:=Hd ((Uh HO1).keep bN)
    have HB2:=Hd ((Uh HB1).trans (bN.mono (Uh HB1).size))
    have hzz:=(Uh HO1).lt
    have SN:=Hd (And.intro oN.sl (show NewAt (w.heap.size + 1) aN from fun x hx => by have:=oN.new x hx; omega))
    clear oN bN KC HO1 HB1 H2' hzz
    go_wp2_with fail
    refine (Uh KC2).mono ?_
    rintro _ w3 ⟨aD,cD,rfl,oD,bD⟩
    have HO3:=Hd ((Uh HO2).keep bD)
    have HB3:=Hd ((Uh HB2).trans (bD.mono (Uh HB2).size))
    have hzz:=(Uh HO2).lt
    have hG1:=Uh HG1
    have hS3:Sl w3 aN n1 cN (limbs (val xs / G)) ∧ NewAt (w.heap.size + 1) aN ∧ Sl w3 aD n2 cD (limbs (val ys / G)) ∧ NewAt (w.heap.size + 1) aD:=by
     rw [hG1,Nat.div_one,Nat.div_one,Uh LX,Uh LY]
     exact ⟨(Uh SN).1.below bD,(Uh SN).2,oD.sl,fun x hx => by have:=oD.new x hx; omega⟩
    clear oD bD KC2 HO2 HB2 hzz hG1 SN
    have hmN:=hS3.1.len
    have hmD:=hS3.2.2.1.len
    have HS3:=Hd hS3
    clear hS3
    by_cases hN:2048 < n1
    ·have t1:(2048:Int) < (n1:Int):=by omega
     have HR:=Hd (show lowF neg (val xs) (val ys) = ((false,[],[]),2) from by unfold lowF; rw [if_neg (Uh HN0),if_pos]; simp only [Bool.or_eq_true]; left; unfold bigN; rw [Uh HG,hmN]; exact decide_eq_true hN)
     clear hmN hmD hN
     have hO3:=Uh HO3
     obtain ⟨x0,q0⟩:=hO3.cells 0 (by decide)
     obtain ⟨x1,q1⟩:=hO3.cells 1 (by decide)
     obtain ⟨x2,q2⟩:=hO3.cells 2 (by decide)
     have r0:=hO3.fz 0 (by decide)
     have r1:=hO3.fz 1 (by decide)
     have r2:=hO3.fz 2 (by decide)
     have H4:=Hd (three_set w3 w.heap.size (.bool false) (.slice none 0 0) (.slice none 0 0) hO3.cells)
     clear hO3
     go_wp2_with fail
     obtain ⟨p0,p1,p2,c4⟩:=Uh H4
     generalize ((w3.setCell ⟨w.heap.size,0,none⟩ (.bool false)).setCell ⟨w.heap.size,1,none⟩ (.slice none 0 0)).setCell ⟨w.heap.size,2,none⟩ (.slice none 0 0) = wf at *
     refine bodyPost_ret (by simp [results,Tryz.results54,go_sem,p0,p1,p2]; try rfl) rfl ?_
     rw [Uh HR]
     exact ⟨_,rfl,newR_of (Nat.le_refl _) (Uh HO3).lt (Uh HB3) (sl_nil _) (newAt_nil _) (sl_nil _) (newAt_nil _) c4 false⟩
    ·have t1:¬ (2048:Int) < (n1:Int):=by omega
     by_cases hD:2048 < n2
     ·have t2:(2048:Int) < (n2:Int):=by omega
      have HR:=Hd (show lowF neg (val xs) (val ys) = ((false,[],[]),2) from by unfold lowF; rw [if_neg (Uh HN0),if_pos]; simp only [Bool.or_eq_true]; right; unfold bigN; rw [Uh HG,hmD]; exact decide_eq_true hD)
      clear hmN hmD hN hD
      have hO3:=Uh HO3
      obtain ⟨x0,q0⟩:=hO3.cells 0 (by decide)
      obtain ⟨x1,q1⟩:=hO3.cells 1 (by decide)
      obtain ⟨x2,q2⟩:=hO3.cells 2 (by decide)
      have r0:=hO3.fz 0 (by decide)
      have r1:=hO3.fz 1 (by decide)
      have r2:=hO3.fz 2 (by decide)
      have H4:=Hd (three_set w3 w.heap.size (.bool false) (.slice none 0 0) (.slice none 0 0) hO3.cells)
      clear hO3
      go_wp2_with fail
      obtain ⟨p0,p1,p2,c4⟩:=Uh H4
      generalize ((w3.setCell ⟨w.heap.size,0,none⟩ (.bool false)).setCell ⟨w.heap.size,1,none⟩ (.slice none 0 0)).setCell ⟨w.heap.size,2,none⟩ (.slice none 0 0) = wf at *
      refine bodyPost_ret (by simp [results,Tryz.results54,go_sem,p0,p1,p2]; try rfl) rfl ?_
      rw [Uh HR]
      exact ⟨_,rfl,newR_of (Nat.le_refl _) (Uh HO3).lt (Uh HB3) (sl_nil _) (newAt_nil _) (sl_nil _) (newAt_nil _) c4 false⟩
     ·have t2:¬ (2048:Int) < (n2:Int):=by omega
      have HR:=Hd (show lowF neg (val xs) (val ys) = ((neg,limbs (val xs / G),limbs (val ys / G)),0) from by
       unfold lowF
       rw [if_neg (Uh HN0),if_neg,Uh HG]
       simp only [Bool.or_eq_true,not_or]
       unfold bigN
       rw [Uh HG,hmN,hmD]
       exact ⟨by simpa using hN,by simpa using hD⟩)
      clear hmN hmD hN hD
      have hO3:=Uh HO3
      obtain ⟨x0,q0⟩:=hO3.cells 0 (by decide)
      obtain ⟨x1,q1⟩:=hO3.cells 1 (by decide)
      obtain ⟨x2,q2⟩:=hO3.cells 2 (by decide)
      have r0:=hO3.fz 0 (by decide)
      have r1:=hO3.fz 1 (by decide)
      have r2:=hO3.fz 2 (by decide)
      have H4:=Hd (three_set w3 w.heap.size (.bool neg) (.slice aN n1 cN) (.slice aD n2 cD) hO3.cells)
      clear hO3
      go_wp2_with fail
      obtain ⟨p0,p1,p2,c4⟩:=Uh H4
      generalize ((w3.setCell ⟨w.heap.size,0,none⟩ (.bool neg)).setCell ⟨w.heap.size,1,none⟩ (.slice aN n1 cN)).setCell ⟨w.heap.size,2,none⟩ (.slice aD n2 cD) = wf at *
      refine bodyPost_ret (by simp [results,Tryz.results54,go_sem,p0,p1,p2]; try rfl) rfl ?_
      rw [Uh HR]
      obtain ⟨sN,nN,sD,nD⟩:=Uh HS3
      exact ⟨_,rfl,newR_of (Nat.le_refl _) (Uh HO3).lt (Uh HB3) sN nN sD nD c4 neg⟩
   ·have t7:((y0:Int) == 1) = false:=by simp; omega
    clear hl hiff
    have KD:=wdiv_any a1 _ n1 c1 mG cG xs (limbs G) w1 ((Uh H1).below hb1w) (Uh HNL).1 sG ox (limbs_ok _) (Uh NX) (limbs_norm _) (fun e => by have:=limbs_eq_nil.1 e; have:=Uh HGP; omega) (by omega) (by omega)
    rw [limbs_v] at KD
    have HKD:=Hd KD
    have H2':=Hd ((Uh H2).below hb1w)
    have HO1:=Hd ((Uh HO).keep bG)
    have HB1:=Hd hb1w
    have SG:=Hd sG
    have hcm:mG ≤ 20000000:=by omega
    clear KD sG nG hnl bG hb1w hcG
    go_wp2_with fail
    refine (Uh HKD).mono ?_
    rintro _ w2 ⟨aN,mN,cN,ar,mr,cr,rfl,⟨sN,nN,_⟩,_,bN⟩
    have KD:=wdiv_any a2 _ n2 c2 mG cG ys (limbs G) w2 ((Uh H2').below bN) (Uh HNL).2 ((Uh SG).below bN) oy (limbs_ok _) (Uh NY) (limbs_norm _) (fun e => by have:=limbs_eq_nil.1 e; have:=Uh HGP; omega) (by omega) (by omega)
    rw [limbs_v] at KD
    have HKD2:=Hd KD
    have HO2:=Hd ((Uh HO1).keep bN)
    have HB2:=Hd ((Uh HB1).trans (bN.mono (Uh HB1).size))
    have hzz:=(Uh HO1).lt
    have SN:=Hd (And.intro sN (show NewAt (w.heap.size + 1) aN from fun x hx => by have:=nN x hx; omega))
    clear KD sN nN bN HKD HO1 HB1 H2' hzz SG
    go_wp2_with fail
    refine (Uh HKD2).mono ?_
    rintro _ w3 ⟨aD,mD,cD,ar2,mr2,cr2,rfl,⟨sD,nD,_⟩,_,bD⟩
    have HO3:=Hd ((Uh HO2).keep bD)
    have HB3:=Hd ((Uh HB2).trans (bD.mono (Uh HB2).size))
    have hzz:=(Uh HO2).lt
    have hS3:Sl w3 aN mN cN (limbs (val xs / G)) ∧ NewAt (w.heap.size + 1) aN ∧ Sl w3 aD mD cD (limbs (val ys / G)) ∧ NewAt (w.heap.size + 1) aD:=⟨(Uh SN).1.below bD,(Uh SN).2,sD,fun x hx => by have:=nD x hx; omega⟩
    clear sD nD bD HKD2 HO2 HB2 hzz SN
    have hmN:=hS3.1.len
    have hmD:=hS3.2.2.1.len
    have HS3:=Hd hS3
    clear hS3
    by_cases hN:2048 < mN
    ·have t1:(2048:Int) < (mN:Int):=by omega
     have HR:=Hd (show lowF neg (val xs) (val ys) = ((false,[],[]),2) from by unfold lowF; rw [if_neg (Uh HN0),if_pos]; simp only [Bool.or_eq_true]; left; unfold bigN; rw [Uh HG,hmN]; exact decide_eq_true hN)
     clear hmN hmD hN
     have hO3:=Uh HO3
     obtain ⟨x0,q0⟩:=hO3.cells 0 (by decide)
     obtain ⟨x1,q1⟩:=hO3.cells 1 (by decide)
     obtain ⟨x2,q2⟩:=hO3.cells 2 (by decide)
     have r0:=hO3.fz 0 (by decide)
     have r1:=hO3.fz 1 (by decide)
     have r2:=hO3.fz 2 (by decide)
     have H4:=Hd (three_set w3 w.heap.size (.bool false) (.slice none 0 0) (.slice none 0 0) hO3.cells)
     clear hO3
     go_wp2_with fail
     obtain ⟨p0,p1,p2,c4⟩:=Uh H4
     generalize ((w3.setCell ⟨w.heap.size,0,none⟩ (.bool false)).setCell ⟨w.heap.size,1,none⟩ (.slice none 0 0)).setCell ⟨w.heap.size,2,none⟩ (.slice none 0 0) = wf at *
     refine bodyPost_ret (by simp [results,Tryz.results54,go_sem,p0,p1,p2]; try rfl) rfl ?_
     rw [Uh HR]
     exact ⟨_,rfl,newR_of (Nat.le_refl _) (Uh HO3).lt (Uh HB3) (sl_nil _) (newAt_nil _) (sl_nil _) (newAt_nil _) c4 false⟩
    ·have t1:¬ (2048:Int) < (mN:Int):=by omega
     by_cases hD:2048 < mD
     ·have t2:(2048:Int) < (mD:Int):=by omega
      have HR:=Hd (show lowF neg (val xs) (val ys) = ((false,[],[]),2) from by unfold lowF; rw [if_neg (Uh HN0),if_pos]; simp only [Bool.or_eq_true]; right; unfold bigN; rw [Uh HG,hmD]; exact decide_eq_true hD)
      clear hmN hmD hN hD
      have hO3:=Uh HO3
      obtain ⟨x0,q0⟩:=hO3.cells 0 (by decide)
      obtain ⟨x1,q1⟩:=hO3.cells 1 (by decide)
      obtain ⟨x2,q2⟩:=hO3.cells 2 (by decide)
      have r0:=hO3.fz 0 (by decide)
      have r1:=hO3.fz 1 (by decide)
      have r2:=hO3.fz 2 (by decide)
      have H4:=Hd (three_set w3 w.heap.size (.bool false) (.slice none 0 0) (.slice none 0 0) hO3.cells)
      clear hO3
      go_wp2_with fail
      obtain ⟨p0,p1,p2,c4⟩:=Uh H4
      generalize ((w3.setCell ⟨w.heap.size,0,none⟩ (.bool false)).setCell ⟨w.heap.size,1,none⟩ (.slice none 0 0)).setCell ⟨w.heap.size,2,none⟩ (.slice none 0 0) = wf at *
      refine bodyPost_ret (by simp [results,Tryz.results54,go_sem,p0,p1,p2]; try rfl) rfl ?_
      rw [Uh HR]
      exact ⟨_,rfl,newR_of (Nat.le_refl _) (Uh HO3).lt (Uh HB3) (sl_nil _) (newAt_nil _) (sl_nil _) (newAt_nil _) c4 false⟩
     ·have t2:¬ (2048:Int) < (mD:Int):=by omega
      have HR:=Hd (show lowF neg (val xs) (val ys) = ((neg,limbs (val xs / G),limbs (val ys / G)),0) from by
       unfold lowF
       rw [if_neg (Uh HN0),if_neg,Uh HG]
       simp only [Bool.or_eq_true,not_or]
       unfold bigN
       rw [Uh HG,hmN,hmD]
       exact ⟨by simpa using hN,by simpa using hD⟩)
      clear hmN hmD hN hD
      have hO3:=Uh HO3
      obtain ⟨x0,q0⟩:=hO3.cells 0 (by decide)
      obtain ⟨x1,q1⟩:=hO3.cells 1 (by decide)
      obtain ⟨x2,q2⟩:=hO3.cells 2 (by decide)
      have r0:=hO3.fz 0 (by decide)
      have r1:=hO3.fz 1 (by decide)
      have r2:=hO3.fz 2 (by decide)
      have H4:=Hd (three_set w3 w.heap.size (.bool neg) (.slice aN mN cN) (.slice aD mD cD) hO3.cells)
      clear hO3
      go_wp2_with fail
      obtain ⟨p0,p1,p2,c4⟩:=Uh H4
      generalize ((w3.setCell ⟨w.heap.size,0,none⟩ (.bool neg)).setCell ⟨w.heap.size,1,none⟩ (.slice aN mN cN)).setCell ⟨w.heap.size,2,none⟩ (.slice aD mD cD) = wf at *
      refine bodyPost_ret (by simp [results,Tryz.results54,go_sem,p0,p1,p2]; try rfl) rfl ?_
      rw [Uh HR]
      obtain ⟨sN,nN,sD,nD⟩:=Uh HS3
      exact ⟨_,rfl,newR_of (Nat.le_refl _) (Uh HO3).lt (Uh HB3) sN nN sD nD c4 neg⟩
  ·have t6:((mG:Int) == 1) = false:=by simp; omega
   clear hl hiff
   have KD:=wdiv_any a1 _ n1 c1 mG cG xs (limbs G) w1 ((Uh H1).below hb1w) (Uh HNL).1 sG ox (limbs_ok _) (Uh NX) (limbs_norm _) (fun e => by have:=limbs_eq_nil.1 e; have:=Uh HGP; omega) (by omega) (by omega)
   rw [limbs_v] at KD
   have HKD:=Hd KD
   have H2':=Hd ((Uh H2).below hb1w)
   have HO1:=Hd ((Uh HO).keep bG)
   have HB1:=Hd hb1w
   have SG:=Hd sG
   have hcm:mG ≤ 20000000:=by omega
   clear KD sG nG hnl bG hb1w hcG
   go_wp2_with fail
   refine (Uh HKD).mono ?_
   rintro _ w2 ⟨aN,mN,cN,ar,mr,cr,rfl,⟨sN,nN,_⟩,_,bN⟩
   have KD:=wdiv_any a2 _ n2 c2 mG cG ys (limbs G) w2 ((Uh H2').below bN) (Uh HNL).2 ((Uh SG).below bN) oy (limbs_ok _) (Uh NY) (limbs_norm _) (fun e => by have:=limbs_eq_nil.1 e; have:=Uh HGP; omega) (by omega) (by omega)
   rw [limbs_v] at KD
   have HKD2:=Hd KD
   have HO2:=Hd ((Uh HO1).keep bN)
   have HB2:=Hd ((Uh HB1).trans (bN.mono (Uh HB1).size))
   have hzz:=(Uh HO1).lt
   have SN:=Hd (And.intro sN (show NewAt (w.heap.size + 1) aN from fun x hx => by have:=nN x hx; omega))
   clear KD sN nN bN HKD HO1 HB1 H2' hzz SG
   go_wp2_with fail
   refine (Uh HKD2).mono ?_
   rintro _ w3 ⟨aD,mD,cD,ar2,mr2,cr2,rfl,⟨sD,nD,_⟩,_,bD⟩
   have HO3:=Hd ((Uh HO2).keep bD)
   have HB3:=Hd ((Uh HB2).trans (bD.mono (Uh HB2).size))
   have hzz:=(Uh HO2).lt
   have hS3:Sl w3 aN mN cN (limbs (val xs / G)) ∧ NewAt (w.heap.size + 1) aN ∧ Sl w3 aD mD cD (limbs (val ys / G)) ∧ NewAt (w.heap.size + 1) aD:=⟨(Uh SN).1.below bD,(Uh SN).2,sD,fun x hx => by have:=nD x hx; omega⟩
   clear sD nD bD HKD2 HO2 HB2 hzz SN
   have hmN:=hS3.1.len
   have hmD:=hS3.2.2.1.len
   have HS3:=Hd hS3
   clear hS3
   by_cases hN:2048 < mN
   ·have t1:(2048:Int) < (mN:Int):=by omega
    have HR:=Hd (show lowF neg (val xs) (val ys) = ((false,[],[]),2) from by unfold lowF; rw [if_neg (Uh HN0),if_pos]; simp only [Bool.or_eq_true]; left; unfold bigN; rw [Uh HG,hmN]; exact decide_eq_true hN)
    clear hmN hmD hN
    have hO3:=Uh HO3
    obtain ⟨x0,q0⟩:=hO3.cells 0 (by decide)
    obtain ⟨x1,q1⟩:=hO3.cells 1 (by decide)
    obtain ⟨x2,q2⟩:=hO3.cells 2 (by decide)
    have r0:=hO3.fz 0 (by decide)
    have r1:=hO3.fz 1 (by decide)
    have r2:=hO3.fz 2 (by decide)
    have H4:=Hd (three_set w3 w.heap.size (.bool false) (.slice none 0 0) (.slice none 0 0) hO3.cells)
    clear hO3
    go_wp2_with fail
    obtain ⟨p0,p1,p2,c4⟩:=Uh H4
    generalize ((w3.setCell ⟨w.heap.size,0,none⟩ (.bool false)).setCell ⟨w.heap.size,1,none⟩ (.slice none 0 0)).setCell ⟨w.heap.size,2,none⟩ (.slice none 0 0) = wf at *
    refine bodyPost_ret (by simp [results,Tryz.results54,go_sem,p0,p1,p2]; try rfl) rfl ?_
    rw [Uh HR]
    exact ⟨_,rfl,newR_of (Nat.le_refl _) (Uh HO3).lt (Uh HB3) (sl_nil _) (newAt_nil _) (sl_nil _) (newAt_nil _) c4 false⟩
   ·have t1:¬ (2048:Int) < (mN:Int):=by omega
    by_cases hD:2048 < mD
    ·have t2:(2048:Int) < (mD:Int):=by omega
     have HR:=Hd (show lowF neg (val xs) (val ys) = ((false,[],[]),2) from by unfold lowF; rw [if_neg (Uh HN0),if_pos]; simp only [Bool.or_eq_true]; right; unfold bigN; rw [Uh HG,hmD]; exact decide_eq_true hD)
     clear hmN hmD hN hD
     have hO3:=Uh HO3
     obtain ⟨x0,q0⟩:=hO3.cells 0 (by decide)
     obtain ⟨x1,q1⟩:=hO3.cells 1 (by decide)
     obtain ⟨x2,q2⟩:=hO3.cells 2 (by decide)
     have r0:=hO3.fz 0 (by decide)
     have r1:=hO3.fz 1 (by decide)
     have r2:=hO3.fz 2 (by decide)
     have H4:=Hd (three_set w3 w.heap.size (.bool false) (.slice none 0 0) (.slice none 0 0) hO3.cells)
     clear hO3
     go_wp2_with fail
     obtain ⟨p0,p1,p2,c4⟩:=Uh H4
     generalize ((w3.setCell ⟨w.heap.size,0,none⟩ (.bool false)).setCell ⟨w.heap.size,1,none⟩ (.slice none 0 0)).setCell ⟨w.heap.size,2,none⟩ (.slice none 0 0) = wf at *
     refine bodyPost_ret (by simp [results,Tryz.results54,go_sem,p0,p1,p2]; try rfl) rfl ?_
     rw [Uh HR]
     exact ⟨_,rfl,newR_of (Nat.le_refl _) (Uh HO3).lt (Uh HB3) (sl_nil _) (newAt_nil _) (sl_nil _) (newAt_nil _) c4 false⟩
    ·have t2:¬ (2048:Int) < (mD:Int):=by omega
     have HR:=Hd (show lowF neg (val xs) (val ys) = ((neg,limbs (val xs / G),limbs (val ys / G)),0) from by
      unfold lowF
      rw [if_neg (Uh HN0),if_neg,Uh HG]
      simp only [Bool.or_eq_true,not_or]
      unfold bigN
      rw [Uh HG,hmN,hmD]
      exact ⟨by simpa using hN,by simpa using hD⟩)
     clear hmN hmD hN hD
     have hO3:=Uh HO3
     obtain ⟨x0,q0⟩:=hO3.cells 0 (by decide)
     obtain ⟨x1,q1⟩:=hO3.cells 1 (by decide)
     obtain ⟨x2,q2⟩:=hO3.cells 2 (by decide)
     have r0:=hO3.fz 0 (by decide)
     have r1:=hO3.fz 1 (by decide)
     have r2:=hO3.fz 2 (by decide)
     have H4:=Hd (three_set w3 w.heap.size (.bool neg) (.slice aN mN cN) (.slice aD mD cD) hO3.cells)
     clear hO3
     go_wp2_with fail
     obtain ⟨p0,p1,p2,c4⟩:=Uh H4
     generalize ((w3.setCell ⟨w.heap.size,0,none⟩ (.bool neg)).setCell ⟨w.heap.size,1,none⟩ (.slice aN mN cN)).setCell ⟨w.heap.size,2,none⟩ (.slice aD mD cD) = wf at *
     refine bodyPost_ret (by simp [results,Tryz.results54,go_sem,p0,p1,p2]; try rfl) rfl ?_
     rw [Uh HR]
     obtain ⟨sN,nN,sD,nD⟩:=Uh HS3
     exact ⟨_,rfl,newR_of (Nat.le_refl _) (Uh HO3).lt (Uh HB3) sN nN sD nD c4 neg⟩
end Go.Proofs.YtlolnaegfponeaaGreatDoor
