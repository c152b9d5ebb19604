/- Ry3 -/
import Derived.Test.YtgfpfjghdbcihaaGreatDoorRy9
import Derived.Test.YtgfpfjghdbcihaaGreatDoorRv9
import Derived.Test.YtgfpfjghdbcihaaGreatDoorWkb
import Derived.Test.YtgfpfjghdbcihaaGreatDoorRa2
import Derived.Test.YtgfpfjghdbcihaaGreatDoorWi2
import Derived.Test.YtgfpfjghdbcihaaGreatDoorDv7
import Derived.Test.YtgfpfjghdbcihaaGreatDoorWij
import Derived.Deep.LoopGhost
import Derived.Deep.AppendLies
import Derived.Test.YtgfpfjghdbcihaaGreatDoorWr4
import Derived.Test.YtgfpfjghdbcihaaGreatDoorWra
import Derived.Test.YtgfpfjghdbcihaaGreatDoorWrd
import Derived.Test.YtgfpfjghdbcihaaGreatDoorRu5
import Derived.Deep.RegionHeld3
import Derived.Test.YtgfpfjghdbcihaaGreatDoorWrf
namespace Go.Proofs.YtgfpfjghdbcihaaGreatDoor
open Go.RowKit Go.Deep
set_option linter.unusedVariables false
theorem div_limbs {D L:Nat} (kD:MayL (limbs D) = true) (kL:MayL (limbs L) = true) (hL:L ≠ 0):divL (limbs D) (limbs L) = (limbs (D / L),limbs (D % L),0):=by
 unfold divL
 rw [kD,kL]
 simp [limbs_v,limbs_eq_nil,hL]
theorem rat_one (p:Nq):∀ u ∈ [Value.bool p.g,.slice p.a p.n p.c,.slice p.b p.m p.d],u.oneCell' = true:=by
 intro u hu
 simp at hu
 rcases hu with rfl | rfl | rfl <;> rfl

set_option maxRecDepth 100000 in
set_option maxHeartbeats 16000000 in
theorem rterms_ok (g:Bool) (a b:Option Addr) (n c m d:Nat) (x y:List Nat) (mo:Nat) (w:World) (hx:Sl w a n c x) (hy:Sl w b m d y) (ox:Ok x) (oy:Ok y) (hm:MayR g x y = true) (h1:1 ≤ mo) (h2:mo ≤ 1024) (hT:Tab64 w) :
  Calls Tryz.prog 42 #[ratV g a n c b m d,.int .i64 (mo:Nat)] w fun e w' => TmPost g x y (mo:Nat) w e w':=by
 have bx:=Box.made w g a n c b m d
 obtain ⟨wa,hwa⟩:∃ wa,ratBox w g a n c b m d = wa:=⟨_,rfl⟩
 rw [hwa] at bx
 unfold ratBox at hwa
 have hba:=bx.bel
 have p0:=bx.d0
 have p1:=bx.d1
 have p2:=bx.d2
 obtain ⟨kx,ky,ey,_,_⟩:=MayR.parts hm
 have vy:=val_pos_of_may ky ey
 have KM:=ratMay_any g a b n c m d x y wa (hx.below hba) (hy.below hba) ox oy (hT.below hba)
 rw [hm] at KM
 have KF:=fun (W:World) (hb:Below wa.heap.size wa W) => ratfloor_any g a b n c m d x y W ((hx.below hba).below hb) ((hy.below hba).below hb) ox oy kx ky ey
 unfold ratV at KM ⊢
 have HKM:=Hd KM
 have HKF:=Hd KF
 have HM:=Hd (And.intro hm (And.intro ky (And.intro oy (And.intro vy (limbs_val oy (MayL.norm ky))))))
 have HY:=Hd (hy.below hba)
 have HBa:=Hd hba
 obtain ⟨i80,hi80,hz80,hs80,hb80⟩:=info_parts Tryz.info_rat
 have I80:=Hd (And.intro hi80 (And.intro hz80 (And.intro hs80 hb80)))
 have tk1:¬ (mo:Int) < 1:=by omega
 have tk2:¬ (1024:Int) < (mo:Int):=by omega
 have tk3:decide ((mo:Int) < 1) = false:=decide_eq_false tk1
 have tk4:decide ((1024:Int) < (mo:Int)) = false:=decide_eq_false tk2
 have HF0:=Hd (show ((mo:Nat):Int) = ((mo - 1:Nat):Int) + 1 by omega)
 obtain ⟨f0,hf0⟩:∃ f,mo - 1 = f:=⟨_,rfl⟩
 have hmo:mo = f0 + 1:=by omega
 have HMo:=Hd hmo
 have hf1:f0 ≤ 1023:=by omega
 clear KM KF hx hy bx hba hm kx ky ey vy hT hi80 hz80 hs80 hb80 hf0 hmo HF0
 go_enter Tryz.func42,Tryz.ntmps42
 go_wp2_with fail
 refine (Uh HKM).mono ?_
 rintro _ w1 ⟨rfl,b1⟩
 have f0':=(ck b1 p0)
 have f1':=(ck b1 p1)
 have f2':=(ck b1 p2)
 have KF1:=Uh HKF w1 b1
 unfold FlPost ratV at KF1
 have HKF1:=Hd KF1
 have HB1:=Hd b1
 clear b1 HKM HKF p0 p1 p2 KF1
 go_wp2_with fail
 refine (Uh HKF1).mono ?_
 rintro _ w2 ⟨aq,nq,cq,bq,mq,dq,al,nl,cl,rfl,sq,s1,sl,nnq,nnb,b2⟩
 have g2':=(b2.cell (p:=⟨w.heap.size,2,none⟩) (World.block_lt_of_cell? _ _ f2')).trans f2'
 have hB2:=(Uh HB1).trans (b2.mono (Uh HB1).size)
 obtain ⟨SG,hSG⟩:∃ s,(g && decide (flQ g (val x) (val y) ≠ 0)) = s:=⟨_,rfl⟩
 rw [hSG]
 have HSG:=Hd hSG
 clear f0' f1' f2' HKF1 HB1 nnq nnb hSG
 obtain ⟨w3,hw3⟩:∃ x,w2.alloc (.cells #[.bool SG,.slice aq nq cq,.slice bq mq dq] 25) = x:=⟨_,rfl⟩
 have b3:Below w2.heap.size w2 w3:=by rw [← hw3]; exact bAl
 have hB3:=(Uh HBa).trans ((hB2.trans (b3.mono hB2.size)).mono (Uh HBa).size)
 have hsd:Sl w3 b m d (limbs (val y)):=by rw [(Uh HM).2.2.2.2]; exact ((Uh HY).below hB2).below b3
 have hTq:Tri w3 w2.heap.size (.bool SG) (.slice aq nq cq) (.slice bq mq dq):=by rw [← hw3]; exact Tri.made _ _ _ _ _
 have y0:=hTq.c0
 have y1:=hTq.c1
 have y2:=hTq.c2
 obtain ⟨w4,hw4⟩:∃ x,w3.alloc (.cells #[.bool SG,.slice aq nq cq,.slice bq mq dq] 25) = x:=⟨_,rfl⟩
 have b4:Below w3.heap.size w3 w4:=by rw [← hw4]; exact bAl
 have g3':=(b3.cell (p:=⟨w.heap.size,2,none⟩) (World.block_lt_of_cell? _ _ g2')).trans g2'
 have g4':=(b4.cell (p:=⟨w.heap.size,2,none⟩) (World.block_lt_of_cell? _ _ g3')).trans g3'
 have HX0:=Hd (show TmX w w4 (.slice (some ⟨w3.heap.size,0,none⟩) 1 1) 1 [⟨SG,aq,nq,cq,limbs (flQ g (val x) (val y)),bq,mq,dq,[1]⟩] (g && decide (flQ g (val x) (val y) ≠ 0),limbs (flQ g (val x) (val y)),[1]) f0 (val y) (flL g (val x) (val y)) [] f0 (val y) (flL g (val x) (val y)) b m d al nl cl from
  ⟨by rw [← hw4]; exact RowQ.one ⟨SG,aq,nq,cq,limbs (flQ g (val x) (val y)),bq,mq,dq,[1]⟩ ⟨⟨sq.below b3,s1.below b3⟩,limbs_ok _,ok_unit⟩ hB3,hsd.below b4,FarB.none hsd,(sl.below b3).below b4,FarB.none (sl.below b3),CfR.begin _ _ _ (flL_lt (Uh HM).2.2.2.1),by rw [Uh HSG]; rfl⟩)
 have HD0:=Hd (fun (D:Nat) (hD:D ≤ val y) => may_small (Uh HM).2.1 (Uh HM).2.2.1 hD)
 clear hsd hB3 hB2 b2 sq s1 sl hTq b4 b3
 go_wp2_with fail
 go_loopg [8,9,10] f0 (fun gq leftv lv denv wr => ∃ k ps ts f D L ad md cd al ml cl,leftv = .slice al ml cl ∧ denv = .slice ad md cd ∧ f ≤ gq ∧ Hid (TmX w wr lv k ps (g && decide (flQ g (val x) (val y) ≠ 0),limbs (flQ g (val x) (val y)),[1]) f0 (val y) (flL g (val x) (val y)) ts f D L ad md cd al ml cl))
 case atStart => exact ⟨1,_,[],f0,_,_,_,_,_,_,_,_,rfl,rfl,Nat.le_refl _,Uh HX0⟩
 case round =>
  clear HX0
  obtain ⟨k,ps,ts,f,D,L,ad,md,cd,al,ml,cl,rfl,rfl,hgq,HX⟩:=hrel
  obtain ⟨av,cv,rfl,_⟩:=(Uh HX).row.form
  have hk:=(Uh HX).cnt
  by_cases hL:L = 0
  ·have hml:ml = 0:=by have:=(Uh HX).sl.len; rw [hL,limbs_zero] at this; simpa using this.symm
   subst hml
   have HP:=Hd ((Uh HX).post (Uh HM).1 (show ((mo:Nat):Int) = (f0:Int) + 1 by have:=Uh HMo; omega) hf1 (.inl hL) (Below.refl _ _))
   rw [decide_eq_true hL] at HP
   clear hk
   go_wp2_with fail
   go_ret3
   exact Uh HP
  ·have hml:0 < ml:=by
    rcases Nat.eq_zero_or_pos ml with e | e
    ·exfalso
     have:=(Uh HX).sl.len
     rw [e] at this
     exact hL (limbs_eq_nil.1 (List.eq_nil_of_length_eq_zero this))
    ·exact e
   have tl:(0:Int) < (ml:Int):=by omega
   have tl2:((ml:Int) == 0) = false:=by simp; omega
   rcases f with _ | f
   ·have tk:¬ (k:Int) < (mo:Int):=by have:=Uh HMo; omega
    have HP:=Hd ((Uh HX).post (Uh HM).1 (show ((mo:Nat):Int) = (f0:Int) + 1 by have:=Uh HMo; omega) hf1 (.inr rfl) (Below.refl _ _))
    rw [decide_eq_false hL] at HP
    clear hk
    go_wp2_with fail
    go_ret3
    exact Uh HP
   ·have tk:(k:Int) < (mo:Int):=by have:=Uh HMo; omega
    have hk9:k ≤ 1024:=by have:=Uh HMo; omega
    have kD:=Uh HD0 D (Uh HX).cf.dle
    have kL:=Uh HD0 L (Nat.le_trans (Nat.le_of_lt (Uh HX).cf.lt) (Uh HX).cf.dle)
    have KV:=ndivmod_any ad al md cd ml cl (limbs D) (limbs L) wr (Uh HX).sd (Uh HX).sl (limbs_ok _) (limbs_ok _)
    rw [div_limbs kD kL hL] at KV
    have KV':=Hd KV
    have HL:=Hd hL
    clear KV kD kL hk hL
    go_wp2_with fail
    refine (Uh KV').mono ?_
    rintro _ w5 ⟨at_,mt,ct,an,mn,cn,rfl,st,nt,sn,nn,_,b5⟩
    have KW:=ratWhole_any false at_ mt ct w5
    unfold WhPost ratV at KW
    rw [Bool.false_and] at KW
    have KW':=Hd KW
    have H5:=Hd (And.intro st (And.intro nt (And.intro sn (And.intro nn b5))))
    clear KW st nt sn nn b5 KV'
    go_wp2_with fail
    refine (Uh KW').mono ?_
    rintro _ w6 ⟨a6,m6,c6,rfl,s6,n6,b6⟩
    have H6:=Hd (And.intro s6 (And.intro n6 b6))
    have b56:=(Uh H5).2.2.2.2.trans (b6.mono (Uh H5).2.2.2.2.size)
    have HOw:=Hd (fun (o:Obj) => ((Uh HX).row.below b56).own.alloc o)
    have HSz:=Hd (((Uh HX).row.below b56).bel.size)
    clear s6 n6 b6 KW' b56
    go_wp2_with (at_builtin; refine wpList_append_lies _ rfl _ _ 50 rfl w.heap.size 25 i80 _ 3 56 Tryz.underlying50 (Uh I80).1 (Uh I80).2.1 (Uh I80).2.2.1 (Uh I80).2.2.2 rfl (by decide) _ k (celQ ps) rfl (Uh HOw _) ⟨w6.heap.size,0,none⟩ 1 1 [.bool false,.slice at_ mt ct,.slice a6 m6 c6] rfl rfl (World.news_of_block (alloc_block _ _)) (rat_one ⟨false,at_,mt,ct,[],a6,m6,c6,[]⟩) (by decide) ?c31 ?c41 ?c51 (w6.heap.size + 1) (by simp) ?_)
    case c31 => unfold maxLen; omega
    case c41 => omega
    case c51 => have:=Uh HSz; simp; omega
    intro g1 cc w7 hown hgrow hat hlt2
    obtain ⟨st,nt,sn,nn,b5⟩:=Uh H5
    obtain ⟨s6,n6,b6⟩:=Uh H6
    have HN:=Hd ((Uh HX).next (Uh HL) b5 sn nn b6 ⟨false,at_,mt,ct,limbs (D / L),a6,m6,c6,[1]⟩ ⟨⟨st.below b6,s6⟩,limbs_ok _,ok_unit⟩ ⟨nt,fun z hz => Nat.le_trans b5.size (n6 z hz)⟩ rfl hown hgrow hat)
    clear hown hgrow hat hlt2 st nt sn nn b5 s6 n6 b6
    go_wp2_with fail
    go_roundg f
    case measure => omega
    case rel => exact ⟨k + 1,_,_,f,L,D % L,al,ml,cl,an,mn,cn,rfl,rfl,Nat.le_refl _,Uh HN⟩
set_option maxRecDepth 100000 in
set_option maxHeartbeats 8000000 in
theorem wplain_any (a:Option Addr) (n c V:Nat) (w:World) (h:Sl w a n c (limbs V)) (nx:a = none → c = 0) (hn:n ≤ 1000000) :
  Calls Tryz.prog 86 #[.slice a n c] w fun e w' => ∃ v,e = .returned v ∧ NewR w w' false (limbs V) [1] v:=by
 obtain ⟨wo,hwo⟩:∃ x,w.alloc (.cells #[.bool false,.slice none 0 0,.slice none 0 0] 25) = x:=⟨_,rfl⟩
 have hbo:Below w.heap.size w wo:=by rw [← hwo]; exact bAl
 have hO:=Out.made w
 rw [hwo] at hO
 have HK:=Hd (fun (W:World) (hb:Below wo.heap.size wo W) => wcopied_any a n c (limbs V) W ((h.below hbo).below hb) nx (by omega))
 have HO:=Hd (And.intro hO hbo)
 clear hO hbo h
 go_enter Tryz.func86,Tryz.ntmps86
 go_wp2_with fail
 refine (Uh HK _ (Below.refl _ _)).mono ?_
 rintro _ w1 ⟨a1,c1,rfl,ow,b1⟩
 obtain ⟨w2,hw2⟩:∃ x,w1.alloc (.cells #[.int .u32 1] 66) = x:=⟨_,rfl⟩
 have b2:Below w1.heap.size w1 w2:=by rw [← hw2]; exact bAl
 have s2:Sl w2 (some ⟨w1.heap.size,0,none⟩) 1 1 [1]:=by rw [← hw2]; exact one_sl w1 1 _
 have b12:=b1.trans (b2.mono b1.size)
 have hO2:=(Uh HO).1.keep b12
 obtain ⟨x0,q0⟩:=hO2.cells 0 (by decide)
 obtain ⟨x1,q1⟩:=hO2.cells 1 (by decide)
 obtain ⟨x2,q2⟩:=hO2.cells 2 (by decide)
 have r0:=hO2.fz 0 (by decide)
 have r1:=hO2.fz 1 (by decide)
 have r2:=hO2.fz 2 (by decide)
 have hlo:=(Uh HO).1.lt
 have z1:=b1.size
 have HR:=Hd (And.intro (three_set w2 w.heap.size (.bool false) (.slice a1 n c1) (.slice (some ⟨w1.heap.size,0,none⟩) 1 1) hO2.cells) (ret_Q (w:=w) (gy:=false) hO2 (ow.sl.below b2) s2 (fun x hx => by have:=ow.new x hx; omega) (fun x hx => by cases hx; show w.heap.size + 1 ≤ w1.heap.size; omega) ((Uh HO).2.trans (b12.mono (Uh HO).2.size)) (Nat.le_refl _)))
 clear ow b1 b2 s2 b12 hO2 HK HO hlo z1
 go_wp2_with fail
 obtain ⟨⟨t0,t1,t2,cc⟩,hR⟩:=Uh HR
 generalize ((w2.setCell ⟨w.heap.size,0,none⟩ (.bool false)).setCell ⟨w.heap.size,1,none⟩ (.slice a1 n c1)).setCell ⟨w.heap.size,2,none⟩ (.slice (some ⟨w1.heap.size,0,none⟩) 1 1) = wf at *
 refine bodyPost_ret (by simp [results,Tryz.results86,go_sem,t0,t1,t2]; try rfl) rfl ?_
 exact ⟨_,rfl,hR⟩
def NewRz (w w':World) (g:Bool) (xs ys:List Nat) (v:Value):Prop:=∃ aN mN cN aD mD cD,v = ratV g aN mN cN aD mD cD ∧ (aN = none → cN = 0) ∧ (aD = none → cD = 0) ∧ Sl w' aN mN cN xs ∧ Sl w' aD mD cD ys ∧ NewAt w.heap.size aN ∧ NewAt w.heap.size aD ∧ Below w.heap.size w w'
theorem NewRz.new {w w':World} {g:Bool} {xs ys:List Nat} {v:Value} (h:NewRz w w' g xs ys v):NewR w w' g xs ys v:=by
 obtain ⟨aN,mN,cN,aD,mD,cD,e,_,_,h1,h2,h3,h4,h5⟩:=h
 exact ⟨aN,mN,cN,aD,mD,cD,e,h1,h2,h3,h4,h5⟩
theorem lowF_whole {g:Bool} {Q:Nat} (h:bigN Q = false):lowF g Q 1 = ((g && decide (Q ≠ 0),limbs Q,[1]),0):=by
 unfold lowF
 by_cases hQ:Q = 0
 ·rw [if_pos hQ,hQ,limbs_zero]; simp
 ·rw [if_neg hQ,Nat.gcd_one_right,Nat.div_one,Nat.div_one,h,limbs_1]
  simp [hQ,show bigN 1 = false from rfl]

theorem flQ_le (g:Bool) {X Y:Nat} (hY:0 < Y):flQ g X Y ≤ X:=by
 unfold flQ
 split
 ·next h =>
  have h2:X % Y ≠ 0:=by simp at h; exact h.2
  exact incr_fit hY h2
 ·exact Nat.div_le_self _ _
theorem flQ_fit (g:Bool) {x y:List Nat} (kx:MayL x = true) (ky:MayL y = true) (ox:Ok x) (oy:Ok y) (ey:y ≠ []):bigN (flQ g (val x) (val y)) = false:=by
 have:=MayL.len (may_small kx ox (flQ_le g (X:=val x) (val_pos_of_may ky ey)))
 unfold bigN
 simp
 omega
theorem bigN_false' {v:Nat} (h:bigN v = false):MayL (limbs v) = true:=by
 have e:¬ 2048 < (limbs v).length:=by
  intro k
  unfold bigN at h
  simp at h
  omega
 exact MayL.mk (limbs_norm v) (by omega)
def SpPost (g:Bool) (X Y:Nat) (w:World) (e:Ending) (w':World):Prop :=
 ∃ a n c b m d a' n' c',e = .returned (.tuple #[ratV (g && decide (flQ g X Y ≠ 0)) a n c b m d,.slice a' n' c']) ∧ Sl w' a n c (limbs (flQ g X Y)) ∧ Sl w' b m d [1] ∧ Sl w' a' n' c' (limbs (flL g X Y)) ∧ (a' = none → c' = 0) ∧ Below w.heap.size w w'

set_option maxRecDepth 100000 in
set_option maxHeartbeats 16000000 in
theorem wsplit_F (a b:Option Addr) (n c m d:Nat) (x y:List Nat) (w:World) (hx:Sl w a n c x) (hy:Sl w b m d y) (ox:Ok x) (oy:Ok y) (nx:a = none → c = 0) (hm:MayR false x y = true) :
  Calls Tryz.prog 85 #[ratV false a n c b m d] w fun e w' => SpPost false (val x) (val y) w e w':=by
 have bx:=Box.made w false a n c b m d
 obtain ⟨wa,hwa⟩:∃ wa,ratBox w false a n c b m d = wa:=⟨_,rfl⟩
 rw [hwa] at bx
 unfold ratBox at hwa
 have hba:=bx.bel
 obtain ⟨wo,hwo⟩:∃ x,wa.alloc (.cells #[.bool false,.slice none 0 0,.slice none 0 0] 25) = x:=⟨_,rfl⟩
 have hbo:Below wa.heap.size wa wo:=by rw [← hwo]; exact bAl
 have hO:Out wo wa.heap.size:=by rw [← hwo]; exact Out.made wa
 have bx2:=bx.keep hbo
 have hB:=hba.trans (hbo.mono hba.size)
 have p0:=bx2.d0
 have p1:=bx2.d1
 have p2:=bx2.d2
 obtain ⟨kx,ky,ey,_,_⟩:=MayR.parts hm
 have vy:=val_pos_of_may ky ey
 have s1:n ≤ 2048:=by have:=hx.len; have:=MayL.len kx; omega
 have s2:m ≤ 2048:=by have:=hy.len; have:=MayL.len ky; omega
 have HQF:=Hd (flQ_fit false kx ky ox oy ey)
 have HR:=Hd (lowF_whole (g:=false) (flQ_fit false kx ky ox oy ey))
 have HKD:=Hd (fun (W:World) (hb:Below wo.heap.size wo W) => wdiv_any a b n c m d x y W ((hx.below hB).below hb) nx ((hy.below hB).below hb) ox oy (MayL.norm kx) (MayL.norm ky) ey (by omega) (by omega))
 have HY:=Hd (And.intro (hy.below hB) (And.intro oy (limbs_val oy (MayL.norm ky))))
 have HLQ:=Hd (MayL.len (may_div kx ox (val y)))
 have HLm:=Hd (Nat.mod_lt (val x) vy)
 have HO:=Hd (And.intro hO hB)
 have HW:=Hd hba.size
 have hwlo:wa.heap.size < wo.heap.size:=hO.lt
 have hne1:w.heap.size ≠ wa.heap.size:=by have:=bx.lt; omega
 have hne3:wa.heap.size ≠ w.heap.size:=by have:=bx.lt; omega
 obtain ⟨X,hX⟩:∃ X,val x = X:=⟨_,rfl⟩
 obtain ⟨Y,hY⟩:∃ Y,val y = Y:=⟨_,rfl⟩
 rw [hX,hY] at HQF HR HKD HLQ HLm
 rw [hX,hY]
 have HYv:=Hd hY
 have hfq:flQ false X Y = X / Y:=by unfold flQ; simp
 have hfl:flL false X Y = X % Y:=by unfold flL; simp
 unfold SpPost
 rw [hfq,hfl]
 rw [hfq] at HQF HR
 clear hfq hfl bx bx2 hba hbo hB hO hx hy kx ky ey vy hX hY hm
 unfold ratV
 go_enter Tryz.func85,Tryz.ntmps85
 go_wp2_with fail
 refine (Uh HKD _ (Below.refl _ _)).mono ?_
 rintro _ w1 ⟨aq,mq,cq,ar,mr,cr,rfl,⟨sq,nq,zq⟩,⟨sr,nr,zr⟩,b1⟩
 have f0:=(ck b1 p0); have f1:=(ck b1 p1); have f2:=(ck b1 p2)
 have HB1:=Hd b1
 have S1:=Hd (And.intro sq (And.intro zq (And.intro sr (And.intro zr (show NewAt (wa.heap.size + 1) ar from fun x hx => by have:=nr x hx; omega)))))
 clear sq nq zq sr nr zr b1 HKD p0 p1 p2
 obtain ⟨wd,hwd⟩:∃ x,w1.alloc (.cells #[.int .u32 1] 66) = x:=⟨_,rfl⟩
 have hbd:Below w1.heap.size w1 wd:=by rw [← hwd]; exact bAl
 have hs2:Sl wd (some ⟨w1.heap.size,0,none⟩) 1 1 [1]:=by rw [← hwd]; exact one_sl w1 1 66
 have hlq:(limbs (X / Y)).length ≤ 2048:=MayL.len (bigN_false' (Uh HQF))
 have KL:=wlower_any false aq (some ⟨w1.heap.size,0,none⟩) mq cq 1 1 (limbs (X / Y)) [1] wd ((Uh S1).1.below hbd) hs2 (limbs_ok _) ok_unit (limbs_norm _) (show Norm [1] from limbs_norm 1) (by decide) (by have:=(Uh S1).1.len; omega) (by decide)
 rw [limbs_v,show val [1] = 1 from by decide,Uh HR] at KL
 unfold ResF at KL
 dsimp only at KL
 have HKL:=Hd KL
 have HBD:=Hd ((Uh HB1).trans (hbd.mono (Uh HB1).size))
 have SM:=Hd (And.intro ((Uh S1).2.2.1.below hbd) (And.intro (Uh S1).2.2.2.1 (Uh S1).2.2.2.2))
 clear KL hbd hs2 hlq
 go_wp2_with fail
 refine (Uh HKL).mono ?_
 rintro _ w8 ⟨v8,rfl,aN,mN,cN,aD,mD,cD,rfl,sN,sD,nN,nD,b8⟩
 unfold ratV
 obtain ⟨SG,hSG⟩:∃ s,(false && decide (X / Y ≠ 0)) = s:=⟨_,rfl⟩
 rw [hSG]
 have HSG:=Hd hSG
 clear hSG
 obtain ⟨w9,hw9⟩:∃ x,w8.alloc (.cells #[.bool SG,.slice aN mN cN,.slice aD mD cD] 25) = x:=⟨_,rfl⟩
 have b9:Below w8.heap.size w8 w9:=by rw [← hw9]; exact bAl
 have hTf:Tri w9 w8.heap.size (.bool SG) (.slice aN mN cN) (.slice aD mD cD):=by rw [← hw9]; exact Tri.made _ _ _ _ _
 have y0:=hTf.c0
 have y1:=hTf.c1
 have y2:=hTf.c2
 have hb9:=(Uh HBD).trans ((b8.trans (b9.mono b8.size)).mono (Uh HBD).size)
 have hO9:=(Uh HO).1.keep hb9
 obtain ⟨x0,z0⟩:=hO9.cells 0 (by decide)
 obtain ⟨x1,z1⟩:=hO9.cells 1 (by decide)
 obtain ⟨x2,z2⟩:=hO9.cells 2 (by decide)
 have e0:=hO9.fz 0 (by decide)
 have e1:=hO9.fz 1 (by decide)
 have e2:=hO9.fz 2 (by decide)
 have hlo:=(Uh HO).1.lt
 have hzd:=(Uh HBD).size
 have hz8:=b8.size
 have hr1:wa.heap.size ≠ w8.heap.size:=by omega
 have hr2:w8.heap.size ≠ wa.heap.size:=by omega
 have HF:=Hd (And.intro (three_set w9 wa.heap.size (.bool SG) (.slice aN mN cN) (.slice aD mD cD) hO9.cells) (And.intro (sN.below b9) (And.intro (sD.below b9) (And.intro (((Uh SM).1.below b8).below b9) (And.intro (show NewAt (wa.heap.size + 1) aN from fun x hx => by have:=nN x hx; omega) (And.intro (show NewAt (wa.heap.size + 1) aD from fun x hx => by have:=nD x hx; omega) hb9))))))
 clear sN sD nN nD b8 b9 hTf hb9 hO9 hlo hzd hz8 HKL hwlo
 go_wp2_with fail
 try go_region
 all_goals
  try go_wp2_with fail
  obtain ⟨⟨t0,t1,t2,cc⟩,sN,sD,sM,nN,nD,hb9⟩:=Uh HF
  have hBw:=(Uh HO).2.trans (hb9.mono (Uh HO).2.size)
  have hlo:=(Uh HO).1.lt
  have hwo2:=Uh HW
  generalize ((w9.setCell ⟨wa.heap.size,0,none⟩ (.bool SG)).setCell ⟨wa.heap.size,1,none⟩ (.slice aN mN cN)).setCell ⟨wa.heap.size,2,none⟩ (.slice aD mD cD) = wf at *
  refine bodyPost_ret (by simp [results,Tryz.results85,go_sem,t0,t1,t2]; try rfl) rfl ?_
  refine ⟨aN,mN,cN,aD,mD,cD,ar,mr,cr,by rw [Uh HSG],sN.chg cc ?_,sD.chg cc ?_,sM.chg cc ?_,(Uh SM).2.1,?_⟩
  ·intro x hx _ e; have:=nN x hx; omega
  ·intro x hx _ e; have:=nD x hx; omega
  ·intro x hx _ e; have:=(Uh SM).2.2 x hx; omega
  ·exact hBw.trans (cc.below hBw.size (fun k hk e => by omega))
set_option maxRecDepth 100000 in
set_option maxHeartbeats 16000000 in
theorem wsplit_Z (a b:Option Addr) (n c m d:Nat) (x y:List Nat) (w:World) (hx:Sl w a n c x) (hy:Sl w b m d y) (ox:Ok x) (oy:Ok y) (nx:a = none → c = 0) (hm:MayR true x y = true) (hr:val x % val y = 0) :
  Calls Tryz.prog 85 #[ratV true a n c b m d] w fun e w' => SpPost true (val x) (val y) w e w':=by
 have bx:=Box.made w true a n c b m d
 obtain ⟨wa,hwa⟩:∃ wa,ratBox w true a n c b m d = wa:=⟨_,rfl⟩
 rw [hwa] at bx
 unfold ratBox at hwa
 have hba:=bx.bel
 obtain ⟨wo,hwo⟩:∃ x,wa.alloc (.cells #[.bool false,.slice none 0 0,.slice none 0 0] 25) = x:=⟨_,rfl⟩
 have hbo:Below wa.heap.size wa wo:=by rw [← hwo]; exact bAl
 have hO:Out wo wa.heap.size:=by rw [← hwo]; exact Out.made wa
 have bx2:=bx.keep hbo
 have hB:=hba.trans (hbo.mono hba.size)
 have p0:=bx2.d0
 have p1:=bx2.d1
 have p2:=bx2.d2
 obtain ⟨kx,ky,ey,_,_⟩:=MayR.parts hm
 have vy:=val_pos_of_may ky ey
 have s1:n ≤ 2048:=by have:=hx.len; have:=MayL.len kx; omega
 have s2:m ≤ 2048:=by have:=hy.len; have:=MayL.len ky; omega
 have HQF:=Hd (flQ_fit true kx ky ox oy ey)
 have HR:=Hd (lowF_whole (g:=true) (flQ_fit true kx ky ox oy ey))
 have HKD:=Hd (fun (W:World) (hb:Below wo.heap.size wo W) => wdiv_any a b n c m d x y W ((hx.below hB).below hb) nx ((hy.below hB).below hb) ox oy (MayL.norm kx) (MayL.norm ky) ey (by omega) (by omega))
 have HY:=Hd (And.intro (hy.below hB) (And.intro oy (limbs_val oy (MayL.norm ky))))
 have HLQ:=Hd (MayL.len (may_div kx ox (val y)))
 have HLm:=Hd (Nat.mod_lt (val x) vy)
 have HO:=Hd (And.intro hO hB)
 have HW:=Hd hba.size
 have hwlo:wa.heap.size < wo.heap.size:=hO.lt
 have hne1:w.heap.size ≠ wa.heap.size:=by have:=bx.lt; omega
 have hne3:wa.heap.size ≠ w.heap.size:=by have:=bx.lt; omega
 obtain ⟨X,hX⟩:∃ X,val x = X:=⟨_,rfl⟩
 obtain ⟨Y,hY⟩:∃ Y,val y = Y:=⟨_,rfl⟩
 rw [hX,hY] at HQF HR HKD HLQ HLm
 rw [hX,hY] at hr
 rw [hX,hY]
 have HYv:=Hd hY
 have hfq:flQ true X Y = X / Y:=by unfold flQ; simp [hr]
 have hfl:flL true X Y = X % Y:=by unfold flL; simp [hr]
 unfold SpPost
 rw [hfq,hfl]
 rw [hfq] at HQF HR
 clear hfq hfl bx bx2 hba hbo hB hO hx hy kx ky ey vy hX hY hm
 unfold ratV
 go_enter Tryz.func85,Tryz.ntmps85
 go_wp2_with fail
 refine (Uh HKD _ (Below.refl _ _)).mono ?_
 rintro _ w1 ⟨aq,mq,cq,ar,mr,cr,rfl,⟨sq,nq,zq⟩,⟨sr,nr,zr⟩,b1⟩
 have f0:=(ck b1 p0); have f1:=(ck b1 p1); have f2:=(ck b1 p2)
 have HB1:=Hd b1
 obtain rfl:mr = 0:=by have:=sr.len; rw [hr,limbs_zero] at this; simpa using this.symm
 have S1:=Hd (And.intro sq (And.intro zq (And.intro sr (And.intro zr (show NewAt (wa.heap.size + 1) ar from fun x hx => by have:=nr x hx; omega)))))
 clear sq nq zq sr nr zr b1 HKD p0 p1 p2
 obtain ⟨wd,hwd⟩:∃ x,w1.alloc (.cells #[.int .u32 1] 66) = x:=⟨_,rfl⟩
 have hbd:Below w1.heap.size w1 wd:=by rw [← hwd]; exact bAl
 have hs2:Sl wd (some ⟨w1.heap.size,0,none⟩) 1 1 [1]:=by rw [← hwd]; exact one_sl w1 1 66
 have hlq:(limbs (X / Y)).length ≤ 2048:=MayL.len (bigN_false' (Uh HQF))
 have KL:=wlower_any true aq (some ⟨w1.heap.size,0,none⟩) mq cq 1 1 (limbs (X / Y)) [1] wd ((Uh S1).1.below hbd) hs2 (limbs_ok _) ok_unit (limbs_norm _) (show Norm [1] from limbs_norm 1) (by decide) (by have:=(Uh S1).1.len; omega) (by decide)
 rw [limbs_v,show val [1] = 1 from by decide,Uh HR] at KL
 unfold ResF at KL
 dsimp only at KL
 have HKL:=Hd KL
 have HBD:=Hd ((Uh HB1).trans (hbd.mono (Uh HB1).size))
 have SM:=Hd (And.intro ((Uh S1).2.2.1.below hbd) (And.intro (Uh S1).2.2.2.1 (Uh S1).2.2.2.2))
 clear KL hbd hs2 hlq
 go_wp2_with fail
 refine (Uh HKL).mono ?_
 rintro _ w8 ⟨v8,rfl,aN,mN,cN,aD,mD,cD,rfl,sN,sD,nN,nD,b8⟩
 unfold ratV
 obtain ⟨SG,hSG⟩:∃ s,(true && decide (X / Y ≠ 0)) = s:=⟨_,rfl⟩
 rw [hSG]
 have HSG:=Hd hSG
 clear hSG
 obtain ⟨w9,hw9⟩:∃ x,w8.alloc (.cells #[.bool SG,.slice aN mN cN,.slice aD mD cD] 25) = x:=⟨_,rfl⟩
 have b9:Below w8.heap.size w8 w9:=by rw [← hw9]; exact bAl
 have hTf:Tri w9 w8.heap.size (.bool SG) (.slice aN mN cN) (.slice aD mD cD):=by rw [← hw9]; exact Tri.made _ _ _ _ _
 have y0:=hTf.c0
 have y1:=hTf.c1
 have y2:=hTf.c2
 have hb9:=(Uh HBD).trans ((b8.trans (b9.mono b8.size)).mono (Uh HBD).size)
 have hO9:=(Uh HO).1.keep hb9
 obtain ⟨x0,z0⟩:=hO9.cells 0 (by decide)
 obtain ⟨x1,z1⟩:=hO9.cells 1 (by decide)
 obtain ⟨x2,z2⟩:=hO9.cells 2 (by decide)
 have e0:=hO9.fz 0 (by decide)
 have e1:=hO9.fz 1 (by decide)
 have e2:=hO9.fz 2 (by decide)
 have hlo:=(Uh HO).1.lt
 have hzd:=(Uh HBD).size
 have hz8:=b8.size
 have hr1:wa.heap.size ≠ w8.heap.size:=by omega
 have hr2:w8.heap.size ≠ wa.heap.size:=by omega
 have HF:=Hd (And.intro (three_set w9 wa.heap.size (.bool SG) (.slice aN mN cN) (.slice aD mD cD) hO9.cells) (And.intro (sN.below b9) (And.intro (sD.below b9) (And.intro (((Uh SM).1.below b8).below b9) (And.intro (show NewAt (wa.heap.size + 1) aN from fun x hx => by have:=nN x hx; omega) (And.intro (show NewAt (wa.heap.size + 1) aD from fun x hx => by have:=nD x hx; omega) hb9))))))
 clear sN sD nN nD b8 b9 hTf hb9 hO9 hlo hzd hz8 HKL hwlo
 go_wp2_with fail
 try go_region
 all_goals
  try go_wp2_with fail
  obtain ⟨⟨t0,t1,t2,cc⟩,sN,sD,sM,nN,nD,hb9⟩:=Uh HF
  have hBw:=(Uh HO).2.trans (hb9.mono (Uh HO).2.size)
  have hlo:=(Uh HO).1.lt
  have hwo2:=Uh HW
  generalize ((w9.setCell ⟨wa.heap.size,0,none⟩ (.bool SG)).setCell ⟨wa.heap.size,1,none⟩ (.slice aN mN cN)).setCell ⟨wa.heap.size,2,none⟩ (.slice aD mD cD) = wf at *
  refine bodyPost_ret (by simp [results,Tryz.results85,go_sem,t0,t1,t2]; try rfl) rfl ?_
  refine ⟨aN,mN,cN,aD,mD,cD,ar,0,cr,by rw [Uh HSG],sN.chg cc ?_,sD.chg cc ?_,sM.chg cc ?_,(Uh SM).2.1,?_⟩
  ·intro x hx _ e; have:=nN x hx; omega
  ·intro x hx _ e; have:=nD x hx; omega
  ·intro x hx _ e; have:=(Uh SM).2.2 x hx; omega
  ·exact hBw.trans (cc.below hBw.size (fun k hk e => by omega))
set_option maxRecDepth 100000 in
set_option maxHeartbeats 16000000 in
theorem wsplit_P (a b:Option Addr) (n c m d:Nat) (x y:List Nat) (w:World) (hx:Sl w a n c x) (hy:Sl w b m d y) (ox:Ok x) (oy:Ok y) (nx:a = none → c = 0) (hm:MayR true x y = true) (hr:val x % val y ≠ 0) :
  Calls Tryz.prog 85 #[ratV true a n c b m d] w fun e w' => SpPost true (val x) (val y) w e w':=by
 have bx:=Box.made w true a n c b m d
 obtain ⟨wa,hwa⟩:∃ wa,ratBox w true a n c b m d = wa:=⟨_,rfl⟩
 rw [hwa] at bx
 unfold ratBox at hwa
 have hba:=bx.bel
 obtain ⟨wo,hwo⟩:∃ x,wa.alloc (.cells #[.bool false,.slice none 0 0,.slice none 0 0] 25) = x:=⟨_,rfl⟩
 have hbo:Below wa.heap.size wa wo:=by rw [← hwo]; exact bAl
 have hO:Out wo wa.heap.size:=by rw [← hwo]; exact Out.made wa
 have bx2:=bx.keep hbo
 have hB:=hba.trans (hbo.mono hba.size)
 have p0:=bx2.d0
 have p1:=bx2.d1
 have p2:=bx2.d2
 obtain ⟨kx,ky,ey,_,_⟩:=MayR.parts hm
 have vy:=val_pos_of_may ky ey
 have s1:n ≤ 2048:=by have:=hx.len; have:=MayL.len kx; omega
 have s2:m ≤ 2048:=by have:=hy.len; have:=MayL.len ky; omega
 have HQF:=Hd (flQ_fit true kx ky ox oy ey)
 have HR:=Hd (lowF_whole (g:=true) (flQ_fit true kx ky ox oy ey))
 have HKD:=Hd (fun (W:World) (hb:Below wo.heap.size wo W) => wdiv_any a b n c m d x y W ((hx.below hB).below hb) nx ((hy.below hB).below hb) ox oy (MayL.norm kx) (MayL.norm ky) ey (by omega) (by omega))
 have HY:=Hd (And.intro (hy.below hB) (And.intro oy (limbs_val oy (MayL.norm ky))))
 have HLQ:=Hd (MayL.len (may_div kx ox (val y)))
 have HLm:=Hd (Nat.mod_lt (val x) vy)
 have HO:=Hd (And.intro hO hB)
 have HW:=Hd hba.size
 have hwlo:wa.heap.size < wo.heap.size:=hO.lt
 have hne1:w.heap.size ≠ wa.heap.size:=by have:=bx.lt; omega
 have hne3:wa.heap.size ≠ w.heap.size:=by have:=bx.lt; omega
 obtain ⟨X,hX⟩:∃ X,val x = X:=⟨_,rfl⟩
 obtain ⟨Y,hY⟩:∃ Y,val y = Y:=⟨_,rfl⟩
 rw [hX,hY] at HQF HR HKD HLQ HLm
 rw [hX,hY] at hr
 rw [hX,hY]
 have HYv:=Hd hY
 have hfq:flQ true X Y = X / Y + 1:=by unfold flQ; simp [hr]
 have hfl:flL true X Y = Y - X % Y:=by unfold flL; simp [hr]
 unfold SpPost
 rw [hfq,hfl]
 rw [hfq] at HQF HR
 clear hfq hfl bx bx2 hba hbo hB hO hx hy kx ky ey vy hX hY hm
 unfold ratV
 go_enter Tryz.func85,Tryz.ntmps85
 go_wp2_with fail
 refine (Uh HKD _ (Below.refl _ _)).mono ?_
 rintro _ w1 ⟨aq,mq,cq,ar,mr,cr,rfl,⟨sq,nq,zq⟩,⟨sr,nr,zr⟩,b1⟩
 have f0:=(ck b1 p0); have f1:=(ck b1 p1); have f2:=(ck b1 p2)
 have HB1:=Hd b1
 have hmr:0 < mr:=by
  rcases Nat.eq_zero_or_pos mr with e | e
  ·exfalso; have:=sr.len; rw [e] at this; exact hr (limbs_eq_nil.1 (List.eq_nil_of_length_eq_zero this))
  ·exact e
 have tr:(0:Int) < (mr:Int):=by omega
 have S1:=Hd (And.intro sq (And.intro zq (And.intro sr (And.intro zr (show NewAt (wa.heap.size + 1) ar from fun x hx => by have:=nr x hx; omega)))))
 clear sq nq zq sr nr zr b1 HKD p0 p1 p2
 obtain ⟨wc,hwc⟩:∃ x,w1.alloc (.cells #[.int .u32 1] 66) = x:=⟨_,rfl⟩
 have hbc:Below w1.heap.size w1 wc:=by rw [← hwc]; exact bAl
 have hs1:Sl wc (some ⟨w1.heap.size,0,none⟩) 1 1 [1]:=by rw [← hwc]; exact one_sl w1 1 66
 have KA:=waddw_any aq (some ⟨w1.heap.size,0,none⟩) mq cq 1 1 (limbs (X / Y)) [1] wc ((Uh S1).1.below hbc) hs1 (limbs_ok _) ok_unit (by have:=(Uh S1).1.len; have:=Uh HLQ; omega) (by decide)
 rw [limbs_v,show val [1] = 1 from by decide] at KA
 have HKA:=Hd KA
 have HBC:=Hd hbc
 have g0:=(ck hbc f0); have g1:=(ck hbc f1); have g2:=(ck hbc f2)
 clear KA hs1 hbc
 go_wp2_with fail
 clear f0 f1 f2
 refine (Uh HKA).mono ?_
 rintro _ w2 ⟨aQ,mQ,cQ,rfl,sQ,nQ,zQ,b2⟩
 have h0:=(ck b2 g0); have h1:=(ck b2 g1); have h2:=(ck b2 g2)
 have hb2:=(Uh HBC).trans (b2.mono (Uh HBC).size)
 have HB2:=Hd ((Uh HB1).trans (hb2.mono (Uh HB1).size))
 have hYw:=(Uh HY).1.below (Uh HB2)
 have hle:mr ≤ m:=by
  have h1:=(Uh S1).2.2.1.len
  have h2:=hYw.len
  have h3:(limbs (X % Y)).length ≤ (limbs Y).length:=rep_len_le (limbs_rep _) (Nat.lt_of_le_of_lt (Nat.le_of_lt (Uh HLm)) (limbs_lt Y))
  have h4:limbs Y = y:=by rw [← Uh HYv]; exact (Uh HY).2.2
  rw [h4] at h3
  omega
 have hyne:y ≠ []:=by intro e; have:=hYw.len; rw [e] at this; simp at this; omega
 have KS:=wsubw_any b ar m d mr cr y (limbs (X % Y)) w2 hYw (hYw.nilc hyne) ((Uh S1).2.2.1.below hb2) (Uh HY).2.1 (limbs_ok _) (by omega) hle (by rw [limbs_v,Uh HYv]; exact Nat.le_of_lt (Uh HLm))
 rw [limbs_v,Uh HYv] at KS
 have HKS:=Hd KS
 have SQ:=Hd (And.intro sQ zQ)
 clear KS hYw hle hyne hb2 b2 sQ nQ zQ HKA HBC g0 g1 g2
 go_wp2_with fail
 refine (Uh HKS).mono ?_
 rintro _ w3 ⟨aM,mM,cM,rfl,sM,nM,zM,b3⟩
 have k0:=(ck b3 h0); have k1:=(ck b3 h1); have k2:=(ck b3 h2)
 have HB3:=Hd ((Uh HB2).trans (b3.mono (Uh HB2).size))
 have hzz:=(Uh HB2).size
 have SQ3:=Hd (And.intro ((Uh SQ).1.below b3) (And.intro sM (And.intro zM (show NewAt (wa.heap.size + 1) aM from fun x hx => by have:=nM x hx; omega))))
 clear HKS SQ sM nM zM b3 h0 h1 h2 HB2 hzz
 obtain ⟨wd,hwd⟩:∃ x,w3.alloc (.cells #[.int .u32 1] 66) = x:=⟨_,rfl⟩
 have hbd:Below w3.heap.size w3 wd:=by rw [← hwd]; exact bAl
 have hs2:Sl wd (some ⟨w3.heap.size,0,none⟩) 1 1 [1]:=by rw [← hwd]; exact one_sl w3 1 66
 have hlq:(limbs (X / Y + 1)).length ≤ 2048:=MayL.len (bigN_false' (Uh HQF))
 have KL:=wlower_any true aQ (some ⟨w3.heap.size,0,none⟩) mQ cQ 1 1 (limbs (X / Y + 1)) [1] wd ((Uh SQ3).1.below hbd) hs2 (limbs_ok _) ok_unit (limbs_norm _) (show Norm [1] from limbs_norm 1) (by decide) (by have:=(Uh SQ3).1.len; omega) (by decide)
 rw [limbs_v,show val [1] = 1 from by decide,Uh HR] at KL
 unfold ResF at KL
 dsimp only at KL
 have HKL:=Hd KL
 have HBD:=Hd ((Uh HB3).trans (hbd.mono (Uh HB3).size))
 have SM:=Hd (And.intro ((Uh SQ3).2.1.below hbd) (And.intro (Uh SQ3).2.2.1 (Uh SQ3).2.2.2))
 clear KL hbd hs2 hlq
 go_wp2_with fail
 refine (Uh HKL).mono ?_
 rintro _ w8 ⟨v8,rfl,aN,mN,cN,aD,mD,cD,rfl,sN,sD,nN,nD,b8⟩
 unfold ratV
 obtain ⟨SG,hSG⟩:∃ s,(true && decide (X / Y + 1 ≠ 0)) = s:=⟨_,rfl⟩
 rw [hSG]
 have HSG:=Hd hSG
 clear hSG
 obtain ⟨w9,hw9⟩:∃ x,w8.alloc (.cells #[.bool SG,.slice aN mN cN,.slice aD mD cD] 25) = x:=⟨_,rfl⟩
 have b9:Below w8.heap.size w8 w9:=by rw [← hw9]; exact bAl
 have hTf:Tri w9 w8.heap.size (.bool SG) (.slice aN mN cN) (.slice aD mD cD):=by rw [← hw9]; exact Tri.made _ _ _ _ _
 have y0:=hTf.c0
 have y1:=hTf.c1
 have y2:=hTf.c2
 have hb9:=(Uh HBD).trans ((b8.trans (b9.mono b8.size)).mono (Uh HBD).size)
 have hO9:=(Uh HO).1.keep hb9
 obtain ⟨x0,z0⟩:=hO9.cells 0 (by decide)
 obtain ⟨x1,z1⟩:=hO9.cells 1 (by decide)
 obtain ⟨x2,z2⟩:=hO9.cells 2 (by decide)
 have e0:=hO9.fz 0 (by decide)
 have e1:=hO9.fz 1 (by decide)
 have e2:=hO9.fz 2 (by decide)
 have hlo:=(Uh HO).1.lt
 have hzd:=(Uh HBD).size
 have hz8:=b8.size
 have hr1:wa.heap.size ≠ w8.heap.size:=by omega
 have hr2:w8.heap.size ≠ wa.heap.size:=by omega
 have HF:=Hd (And.intro (three_set w9 wa.heap.size (.bool SG) (.slice aN mN cN) (.slice aD mD cD) hO9.cells) (And.intro (sN.below b9) (And.intro (sD.below b9) (And.intro (((Uh SM).1.below b8).below b9) (And.intro (show NewAt (wa.heap.size + 1) aN from fun x hx => by have:=nN x hx; omega) (And.intro (show NewAt (wa.heap.size + 1) aD from fun x hx => by have:=nD x hx; omega) hb9))))))
 clear sN sD nN nD b8 b9 hTf hb9 hO9 hlo hzd hz8 HKL hwlo
 go_wp2_with fail
 try go_region
 all_goals
  try go_wp2_with fail
  obtain ⟨⟨t0,t1,t2,cc⟩,sN,sD,sM,nN,nD,hb9⟩:=Uh HF
  have hBw:=(Uh HO).2.trans (hb9.mono (Uh HO).2.size)
  have hlo:=(Uh HO).1.lt
  have hwo2:=Uh HW
  generalize ((w9.setCell ⟨wa.heap.size,0,none⟩ (.bool SG)).setCell ⟨wa.heap.size,1,none⟩ (.slice aN mN cN)).setCell ⟨wa.heap.size,2,none⟩ (.slice aD mD cD) = wf at *
  refine bodyPost_ret (by simp [results,Tryz.results85,go_sem,t0,t1,t2]; try rfl) rfl ?_
  refine ⟨aN,mN,cN,aD,mD,cD,aM,mM,cM,by rw [Uh HSG],sN.chg cc ?_,sD.chg cc ?_,sM.chg cc ?_,(Uh SM).2.1,?_⟩
  ·intro x hx _ e; have:=nN x hx; omega
  ·intro x hx _ e; have:=nD x hx; omega
  ·intro x hx _ e; have:=(Uh SM).2.2 x hx; omega
  ·exact hBw.trans (cc.below hBw.size (fun k hk e => by omega))
theorem wsplit_any (g:Bool) (a b:Option Addr) (n c m d:Nat) (x y:List Nat) (w:World) (hx:Sl w a n c x) (hy:Sl w b m d y) (ox:Ok x) (oy:Ok y) (nx:a = none → c = 0) (hm:MayR g x y = true) :
  Calls Tryz.prog 85 #[ratV g a n c b m d] w fun e w' => SpPost g (val x) (val y) w e w':=by
 cases g with
 | false => exact wsplit_F a b n c m d x y w hx hy ox oy nx hm
 | true =>
  by_cases hr:val x % val y = 0
  ·exact wsplit_Z a b n c m d x y w hx hy ox oy nx hm hr
  ·exact wsplit_P a b n c m d x y w hx hy ox oy nx hm hr
end Go.Proofs.YtgfpfjghdbcihaaGreatDoor
