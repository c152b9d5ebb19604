/- Wrl -/
import Derived.Test.YtpbcnkcnjnefiaaGreatDoorRl2
import Derived.Test.YtpbcnkcnjnefiaaGreatDoorRy9
import Derived.Test.YtpbcnkcnjnefiaaGreatDoorGb
import Derived.Test.YtpbcnkcnjnefiaaGreatDoorPa2
import Derived.Test.YtpbcnkcnjnefiaaGreatDoorRp6
import Derived.Deep.RegionHeld3
import Derived.Test.YtpbcnkcnjnefiaaGreatDoorRyc
import Derived.Test.YtpbcnkcnjnefiaaGreatDoorRz2
import Derived.Test.YtpbcnkcnjnefiaaGreatDoorWkb
import Derived.Test.YtpbcnkcnjnefiaaGreatDoorRa2
import Derived.Test.YtpbcnkcnjnefiaaGreatDoorWi2
import Derived.Test.YtpbcnkcnjnefiaaGreatDoorDv7
import Derived.Test.YtpbcnkcnjnefiaaGreatDoorPw1
import Derived.Test.YtpbcnkcnjnefiaaGreatDoorWis
import Derived.Deep.LoopGhost
import Derived.Deep.AppendLies
import Derived.Test.YtpbcnkcnjnefiaaGreatDoorRz7
import Derived.Test.YtpbcnkcnjnefiaaGreatDoorWik
import Derived.Test.YtpbcnkcnjnefiaaGreatDoorRs1
import Derived.Test.YtpbcnkcnjnefiaaGreatDoorRa6
namespace Go.Proofs.YtpbcnkcnjnefiaaGreatDoor
open Go.RowKit Go.Deep
set_option linter.unusedVariables false



set_option maxRecDepth 100000 in
set_option maxHeartbeats 8000000 in
theorem rfromTerms_bad (a:Option Addr) (n c:Nat) (ps:List Nq) (w:World) (h:SlQ w a n c ps) (hn:n ≤ 140737488355328) (hT:Tab64 w) (hm:mayQ ps = false) :
  Calls Tryz.prog 13 #[.slice a n c] w fun e w' => ResF w w' ((false,[],[]),40) e:=by
 obtain ⟨wo,hwo⟩:∃ x,w.alloc (.cells #[.bool false,.slice none 0 0,.slice none 0 0] 25) = x:=⟨_,rfl⟩
 have hbo:Below w.heap.size w wo:=by rw [← hwo]; exact bAl
 have hO:=Out.made w
 rw [hwo] at hO
 have KA:=rmayAll_any a n c ps wo (h.below hbo) (by omega) (hT.below hbo)
 rw [hm] at KA
 have HKA:=Hd KA
 have HO:=Hd (And.intro hO hbo)
 clear KA h hm hO hbo
 unfold ResF
 dsimp only
 go_enter Tryz.func13,Tryz.ntmps13
 go_wp2_with fail
 refine (Uh HKA).mono ?_
 rintro _ w1 ⟨rfl,b1⟩
 have HB1:=Hd ((Uh HO).2.trans (b1.mono (Uh HO).2.size))
 have HO1:=Hd ((Uh HO).1.keep b1)
 have HBr:=Hd b1
 clear b1 HKA HO
 have hOo:=(Uh HO1)
 obtain ⟨j0,u0⟩:=hOo.cells 0 (by decide)
 obtain ⟨j1,u1⟩:=hOo.cells 1 (by decide)
 obtain ⟨j2,u2⟩:=hOo.cells 2 (by decide)
 have v0:=hOo.fz 0 (by decide)
 have v1:=hOo.fz 1 (by decide)
 have v2:=hOo.fz 2 (by decide)
 have HR:=Hd (And.intro (three_set w1 w.heap.size (.bool false) (.slice none 0 0) (.slice none 0 0) hOo.cells) (ret_Q (w:=w) (gy:=false) hOo (sl_nil _) (sl_nil _) (newAt_nil _) (newAt_nil _) (Uh HB1) (Nat.le_refl _)))
 clear hOo
 go_wp2_with fail
 obtain ⟨⟨t0_,t1_,t2_,cc_⟩,hR⟩:=Uh HR
 generalize ((w1.setCell ⟨w.heap.size,0,none⟩ (.bool false)).setCell ⟨w.heap.size,1,none⟩ (.slice none 0 0)).setCell ⟨w.heap.size,2,none⟩ (.slice none 0 0) = wf at *
 refine bodyPost_ret (by simp [results,Tryz.results13,go_sem,t0_,t1_,t2_]; try rfl) rfl ?_
 exact ⟨_,rfl,hR⟩
set_option maxRecDepth 100000 in
set_option maxHeartbeats 8000000 in
theorem rfromTerms_no (a:Option Addr) (n c:Nat) (ps:List Nq) (w:World) (h:SlQ w a n c ps) (hn:n ≤ 140737488355328) (hT:Tab64 w) (hm:mayQ ps = true) (ht:tmQ ps = false) :
  Calls Tryz.prog 13 #[.slice a n c] w fun e w' => ResF w w' ((false,[],[]),1) e:=by
 obtain ⟨wo,hwo⟩:∃ x,w.alloc (.cells #[.bool false,.slice none 0 0,.slice none 0 0] 25) = x:=⟨_,rfl⟩
 have hbo:Below w.heap.size w wo:=by rw [← hwo]; exact bAl
 have hO:=Out.made w
 rw [hwo] at hO
 have KA:=rmayAll_any a n c ps wo (h.below hbo) (by omega) (hT.below hbo)
 rw [hm] at KA
 have HKA:=Hd KA
 have HO:=Hd (And.intro hO hbo)
 have KT:=fun (W:World) (hb:Below wo.heap.size wo W) => rareTerms_any a n c ps W ((h.below hbo).below hb)
 rw [ht] at KT
 have HKT:=Hd KT
 clear KA KT h hm hO hbo ht
 unfold ResF
 dsimp only
 go_enter Tryz.func13,Tryz.ntmps13
 go_wp2_with fail
 refine (Uh HKA).mono ?_
 rintro _ w1 ⟨rfl,b1⟩
 have HB1:=Hd ((Uh HO).2.trans (b1.mono (Uh HO).2.size))
 have HO1:=Hd ((Uh HO).1.keep b1)
 have HBr:=Hd b1
 clear b1 HKA HO
 go_wp2_with fail
 refine (Uh HKT _ (Uh HBr)).mono ?_
 rintro _ w2 ⟨rfl,b2⟩
 have HB2:=Hd ((Uh HB1).trans (b2.mono (Uh HB1).size))
 have HO2:=Hd ((Uh HO1).keep b2)
 clear b2 HKT
 have hOo:=(Uh HO2)
 obtain ⟨j0,u0⟩:=hOo.cells 0 (by decide)
 obtain ⟨j1,u1⟩:=hOo.cells 1 (by decide)
 obtain ⟨j2,u2⟩:=hOo.cells 2 (by decide)
 have v0:=hOo.fz 0 (by decide)
 have v1:=hOo.fz 1 (by decide)
 have v2:=hOo.fz 2 (by decide)
 have HR:=Hd (And.intro (three_set w2 w.heap.size (.bool false) (.slice none 0 0) (.slice none 0 0) hOo.cells) (ret_Q (w:=w) (gy:=false) hOo (sl_nil _) (sl_nil _) (newAt_nil _) (newAt_nil _) (Uh HB2) (Nat.le_refl _)))
 clear hOo
 go_wp2_with fail
 obtain ⟨⟨t0_,t1_,t2_,cc_⟩,hR⟩:=Uh HR
 generalize ((w2.setCell ⟨w.heap.size,0,none⟩ (.bool false)).setCell ⟨w.heap.size,1,none⟩ (.slice none 0 0)).setCell ⟨w.heap.size,2,none⟩ (.slice none 0 0) = wf at *
 refine bodyPost_ret (by simp [results,Tryz.results13,go_sem,t0_,t1_,t2_]; try rfl) rfl ?_
 exact ⟨_,rfl,hR⟩
theorem rfromTerms_any (a:Option Addr) (n c:Nat) (ps:List Nq) (w:World) (h:SlQ w a n c ps) (hn:n ≤ 140737488355328) (hT:Tab64 w) :
  Calls Tryz.prog 13 #[.slice a n c] w fun e w' => ResF w w' (FtF ps) e:=by
 cases hm:mayQ ps with
 | false => rw [ftF_bad hm]; exact rfromTerms_bad a n c ps w h hn hT hm
 | true =>
  cases ht:tmQ ps with
  | false => rw [ftF_no hm ht]; exact rfromTerms_no a n c ps w h hn hT hm ht
  | true =>
   cases ps with
   | nil => cases ht
   | cons p0 r => exact rfromTerms_ok a n c p0 r w h hm ht hT
theorem Tryz.info_rat:(Tryz.prog.info? 25).map (fun i => (i.zero,i.size,i.bytes)) = some (some (.agg #[.bool false,.slice none 0 0,.slice none 0 0]),3,56):=by kernel_rfl
theorem made_first (n:Nat):∃ b,(madeCells #[.bool false,.slice none 0 0,.slice none 0 0] ((n + 3) * 3))[0]? = some (.bool b):=⟨false,by simp [madeCells]⟩
theorem FilQ.made (w:World) (n:Nat):FilQ (w.alloc (.cells (madeCells #[.bool false,.slice none 0 0,.slice none 0 0] ((n + 3) * 3)) 25)) w.heap.size (n + 3) [] :=
 FilQ.begin w (n + 3) _ (size_madeCells _ _) (made_first n)

structure CpQ (w wr:World) (n k:Nat) (ps qs:List Nq):Prop where
 fil:FilQ wr w.heap.size (n + 3) qs
 len:qs.length = k
 con:qs.map conQ = (ps.take k).map conQ
 far:FarQ (fun j => j ≤ w.heap.size) qs
 bel:Below w.heap.size w wr
theorem CpQ.next {w wr wk:World} {n k:Nat} {ps qs:List Nq} (h:CpQ w wr n k ps qs) (hk:k < n) {p:Nq} (hp:ps[k]? = some p) (ho:Ok p.x ∧ Ok p.y) {a1 a2:Option Addr} {m1 c1 m2 c2:Nat}
  (hN:Sl wk a1 m1 c1 p.x ∧ Sl wk a2 m2 c2 p.y ∧ NewAt wr.heap.size a1 ∧ NewAt wr.heap.size a2 ∧ Below wr.heap.size wr wk) :
  CpQ w (((wk.setCell ⟨w.heap.size,k * 3,none⟩ (.bool p.g)).setCell ⟨w.heap.size,k * 3 + 1,none⟩ (.slice a1 m1 c1)).setCell ⟨w.heap.size,k * 3 + 2,none⟩ (.slice a2 m2 c2)) n (k + 1) ps (qs ++ [⟨p.g,a1,m1,c1,p.x,a2,m2,c2,p.y⟩]):=by
 obtain ⟨s1,s2,n1,n2,b⟩:=hN
 have hlt:=h.fil.lt
 have hlen:=h.len
 have hfar:FarQ (fun j => j ≤ w.heap.size) (qs ++ [⟨p.g,a1,m1,c1,p.x,a2,m2,c2,p.y⟩]):=by
  intro q hq
  rcases List.mem_append.1 hq with e | e
  ·exact h.far q e
  ·obtain rfl:=List.mem_singleton.1 e
   exact ⟨fun z hz _ hl => by have:=n1 z hz; omega,fun z hz _ hl => by have:=n2 z hz; omega⟩
 obtain ⟨f1,f2⟩:=(h.fil.below b).next (by omega) ⟨p.g,a1,m1,c1,p.x,a2,m2,c2,p.y⟩ ⟨⟨s1,s2⟩,ho⟩ (fun q hq => ⟨fun z hz hne e => (hfar q hq).1 z hz hne (Nat.le_of_eq e),fun z hz hne e => (hfar q hq).2 z hz hne (Nat.le_of_eq e)⟩) h.len
 have hb:=h.bel.trans (b.mono h.bel.size)
 refine ⟨f1,by simp [h.len],?_,hfar,hb.trans (f2.below hb.size (fun j hj e => by omega))⟩
 rw [List.map_append,h.con,List.take_add_one,hp]
 simp [conQ]
theorem div_limbs {D L:Nat} (kD:MayL (limbs D) = true) (kL:MayL (limbs L) = true) (hL:L ≠ 0):divL (limbs D) (limbs L) = (limbs (D / L),limbs (D % L),0):=by
 unfold divL
 rw [kD,kL]
 simp [limbs_v,limbs_eq_nil,hL]
theorem rat_one (p:Nq):∀ u ∈ [Value.bool p.g,.slice p.a p.n p.c,.slice p.b p.m p.d],u.oneCell' = true:=by
 intro u hu
 simp at hu
 rcases hu with rfl | rfl | rfl <;> rfl

set_option maxRecDepth 100000 in
set_option maxHeartbeats 16000000 in
theorem rterms_ok (g:Bool) (a b:Option Addr) (n c m d:Nat) (x y:List Nat) (mo:Nat) (w:World) (hx:Sl w a n c x) (hy:Sl w b m d y) (ox:Ok x) (oy:Ok y) (hm:MayR g x y = true) (h1:1 ≤ mo) (h2:mo ≤ 1024) (hT:Tab64 w) :
  Calls Tryz.prog 12 #[ratV g a n c b m d,.int .i64 (mo:Nat)] w fun e w' => TmPost g x y (mo:Nat) w e w':=by
 have bx:=Box.made w g a n c b m d
 obtain ⟨wa,hwa⟩:∃ wa,ratBox w g a n c b m d = wa:=⟨_,rfl⟩
 rw [hwa] at bx
 unfold ratBox at hwa
 have hba:=bx.bel
 have p0:=bx.d0
 have p1:=bx.d1
 have p2:=bx.d2
 obtain ⟨kx,ky,ey,_,_⟩:=MayR.parts hm
 have vy:=val_pos_of_may ky ey
 have KM:=ratMay_any g a b n c m d x y wa (hx.below hba) (hy.below hba) ox oy (hT.below hba)
 rw [hm] at KM
 have KF:=fun (W:World) (hb:Below wa.heap.size wa W) => ratfloor_any g a b n c m d x y W ((hx.below hba).below hb) ((hy.below hba).below hb) ox oy kx ky ey
 unfold ratV at KM ⊢
 have HKM:=Hd KM
 have HKF:=Hd KF
 have HM:=Hd (And.intro hm (And.intro ky (And.intro oy (And.intro vy (limbs_val oy (MayL.norm ky))))))
 have HY:=Hd (hy.below hba)
 have HBa:=Hd hba
 obtain ⟨i80,hi80,hz80,hs80,hb80⟩:=info_parts Tryz.info_rat
 have I80:=Hd (And.intro hi80 (And.intro hz80 (And.intro hs80 hb80)))
 have tk1:¬ (mo:Int) < 1:=by omega
 have tk2:¬ (1024:Int) < (mo:Int):=by omega
 have tk3:decide ((mo:Int) < 1) = false:=decide_eq_false tk1
 have tk4:decide ((1024:Int) < (mo:Int)) = false:=decide_eq_false tk2
 have HF0:=Hd (show ((mo:Nat):Int) = ((mo - 1:Nat):Int) + 1 by omega)
 obtain ⟨f0,hf0⟩:∃ f,mo - 1 = f:=⟨_,rfl⟩
 have hmo:mo = f0 + 1:=by omega
 have HMo:=Hd hmo
 have hf1:f0 ≤ 1023:=by omega
 clear KM KF hx hy bx hba hm kx ky ey vy hT hi80 hz80 hs80 hb80 hf0 hmo HF0
 go_enter Tryz.func12,Tryz.ntmps12
 go_wp2_with fail
 refine (Uh HKM).mono ?_
 rintro _ w1 ⟨rfl,b1⟩
 have f0':=(ck b1 p0)
 have f1':=(ck b1 p1)
 have f2':=(ck b1 p2)
 have KF1:=Uh HKF w1 b1
 unfold FlPost ratV at KF1
 have HKF1:=Hd KF1
 have HB1:=Hd b1
 clear b1 HKM HKF p0 p1 p2 KF1
 go_wp2_with fail
 refine (Uh HKF1).mono ?_
 rintro _ w2 ⟨aq,nq,cq,bq,mq,dq,al,nl,cl,rfl,sq,s1,sl,nnq,nnb,b2⟩
 have g2':=(b2.cell (p:=⟨w.heap.size,2,none⟩) (World.block_lt_of_cell? _ _ f2')).trans f2'
 have hB2:=(Uh HB1).trans (b2.mono (Uh HB1).size)
 obtain ⟨SG,hSG⟩:∃ s,(g && decide (flQ g (val x) (val y) ≠ 0)) = s:=⟨_,rfl⟩
 rw [hSG]
 have HSG:=Hd hSG
 clear f0' f1' f2' HKF1 HB1 nnq nnb hSG
 obtain ⟨w3,hw3⟩:∃ x,w2.alloc (.cells #[.bool SG,.slice aq nq cq,.slice bq mq dq] 25) = x:=⟨_,rfl⟩
 have b3:Below w2.heap.size w2 w3:=by rw [← hw3]; exact bAl
 have hB3:=(Uh HBa).trans ((hB2.trans (b3.mono hB2.size)).mono (Uh HBa).size)
 have hsd:Sl w3 b m d (limbs (val y)):=by rw [(Uh HM).2.2.2.2]; exact ((Uh HY).below hB2).below b3
 have hTq:Tri w3 w2.heap.size (.bool SG) (.slice aq nq cq) (.slice bq mq dq):=by rw [← hw3]; exact Tri.made _ _ _ _ _
 have y0:=hTq.c0
 have y1:=hTq.c1
 have y2:=hTq.c2
 obtain ⟨w4,hw4⟩:∃ x,w3.alloc (.cells #[.bool SG,.slice aq nq cq,.slice bq mq dq] 25) = x:=⟨_,rfl⟩
 have b4:Below w3.heap.size w3 w4:=by rw [← hw4]; exact bAl
 have g3':=(b3.cell (p:=⟨w.heap.size,2,none⟩) (World.block_lt_of_cell? _ _ g2')).trans g2'
 have g4':=(b4.cell (p:=⟨w.heap.size,2,none⟩) (World.block_lt_of_cell? _ _ g3')).trans g3'
 have HX0:=Hd (show TmX w w4 (.slice (some ⟨w3.heap.size,0,none⟩) 1 1) 1 [⟨SG,aq,nq,cq,limbs (flQ g (val x) (val y)),bq,mq,dq,[1]⟩] (g && decide (flQ g (val x) (val y) ≠ 0),limbs (flQ g (val x) (val y)),[1]) f0 (val y) (flL g (val x) (val y)) [] f0 (val y) (flL g (val x) (val y)) b m d al nl cl from
  ⟨by rw [← hw4]; exact RowQ.one ⟨SG,aq,nq,cq,limbs (flQ g (val x) (val y)),bq,mq,dq,[1]⟩ ⟨⟨sq.below b3,s1.below b3⟩,limbs_ok _,ok_unit⟩ hB3,hsd.below b4,FarB.none hsd,(sl.below b3).below b4,FarB.none (sl.below b3),CfR.begin _ _ _ (flL_lt (Uh HM).2.2.2.1),by rw [Uh HSG]; rfl⟩)
 have HD0:=Hd (fun (D:Nat) (hD:D ≤ val y) => may_small (Uh HM).2.1 (Uh HM).2.2.1 hD)
 clear hsd hB3 hB2 b2 sq s1 sl hTq b4 b3
 go_wp2_with fail
 go_loopg [8,9,10] f0 (fun gq leftv lv denv wr => ∃ k ps ts f D L ad md cd al ml cl,leftv = .slice al ml cl ∧ denv = .slice ad md cd ∧ f ≤ gq ∧ Hid (TmX w wr lv k ps (g && decide (flQ g (val x) (val y) ≠ 0),limbs (flQ g (val x) (val y)),[1]) f0 (val y) (flL g (val x) (val y)) ts f D L ad md cd al ml cl))
 case atStart => exact ⟨1,_,[],f0,_,_,_,_,_,_,_,_,rfl,rfl,Nat.le_refl _,Uh HX0⟩
 case round =>
  clear HX0
  obtain ⟨k,ps,ts,f,D,L,ad,md,cd,al,ml,cl,rfl,rfl,hgq,HX⟩:=hrel
  obtain ⟨av,cv,rfl,_⟩:=(Uh HX).row.form
  have hk:=(Uh HX).cnt
  by_cases hL:L = 0
  ·have hml:ml = 0:=by have:=(Uh HX).sl.len; rw [hL,limbs_zero] at this; simpa using this.symm
   subst hml
   have HP:=Hd ((Uh HX).post (Uh HM).1 (show ((mo:Nat):Int) = (f0:Int) + 1 by have:=Uh HMo; omega) hf1 (.inl hL) (Below.refl _ _))
   rw [decide_eq_true hL] at HP
   clear hk
   go_wp2_with fail
   go_ret3
   exact Uh HP
  ·have hml:0 < ml:=by
    rcases Nat.eq_zero_or_pos ml with e | e
    ·exfalso
     have:=(Uh HX).sl.len
     rw [e] at this
     exact hL (limbs_eq_nil.1 (List.eq_nil_of_length_eq_zero this))
    ·exact e
   have tl:(0:Int) < (ml:Int):=by omega
   have tl2:((ml:Int) == 0) = false:=by simp; omega
   rcases f with _ | f
   ·have tk:¬ (k:Int) < (mo:Int):=by have:=Uh HMo; omega
    have HP:=Hd ((Uh HX).post (Uh HM).1 (show ((mo:Nat):Int) = (f0:Int) + 1 by have:=Uh HMo; omega) hf1 (.inr rfl) (Below.refl _ _))
    rw [decide_eq_false hL] at HP
    clear hk
    go_wp2_with fail
    go_ret3
    exact Uh HP
   ·have tk:(k:Int) < (mo:Int):=by have:=Uh HMo; omega
    have hk9:k ≤ 1024:=by have:=Uh HMo; omega
    have kD:=Uh HD0 D (Uh HX).cf.dle
    have kL:=Uh HD0 L (Nat.le_trans (Nat.le_of_lt (Uh HX).cf.lt) (Uh HX).cf.dle)
    have KV:=ndivmod_any ad al md cd ml cl (limbs D) (limbs L) wr (Uh HX).sd (Uh HX).sl (limbs_ok _) (limbs_ok _)
    rw [div_limbs kD kL hL] at KV
    have KV':=Hd KV
    have HL:=Hd hL
    clear KV kD kL hk hL
    go_wp2_with fail
    refine (Uh KV').mono ?_
    rintro _ w5 ⟨at_,mt,ct,an,mn,cn,rfl,st,nt,sn,nn,_,b5⟩
    have KW:=ratWhole_any false at_ mt ct w5
    unfold WhPost ratV at KW
    rw [Bool.false_and] at KW
    have KW':=Hd KW
    have H5:=Hd (And.intro st (And.intro nt (And.intro sn (And.intro nn b5))))
    clear KW st nt sn nn b5 KV'
    go_wp2_with fail
    refine (Uh KW').mono ?_
    rintro _ w6 ⟨a6,m6,c6,rfl,s6,n6,b6⟩
    have H6:=Hd (And.intro s6 (And.intro n6 b6))
    have b56:=(Uh H5).2.2.2.2.trans (b6.mono (Uh H5).2.2.2.2.size)
    have HOw:=Hd (fun (o:Obj) => ((Uh HX).row.below b56).own.alloc o)
    have HSz:=Hd (((Uh HX).row.below b56).bel.size)
    clear s6 n6 b6 KW' b56
    go_wp2_with (at_builtin; refine wpList_append_lies _ rfl _ _ 37 rfl w.heap.size 25 i80 _ 3 56 Tryz.underlying37 (Uh I80).1 (Uh I80).2.1 (Uh I80).2.2.1 (Uh I80).2.2.2 rfl (by decide) _ k (celQ ps) rfl (Uh HOw _) ⟨w6.heap.size,0,none⟩ 1 1 [.bool false,.slice at_ mt ct,.slice a6 m6 c6] rfl rfl (World.news_of_block (alloc_block _ _)) (rat_one ⟨false,at_,mt,ct,[],a6,m6,c6,[]⟩) (by decide) ?c31 ?c41 ?c51 (w6.heap.size + 1) (by simp) ?_)
    case c31 => unfold maxLen; omega
    case c41 => omega
    case c51 => have:=Uh HSz; simp; omega
    intro g1 cc w7 hown hgrow hat hlt2
    obtain ⟨st,nt,sn,nn,b5⟩:=Uh H5
    obtain ⟨s6,n6,b6⟩:=Uh H6
    have HN:=Hd ((Uh HX).next (Uh HL) b5 sn nn b6 ⟨false,at_,mt,ct,limbs (D / L),a6,m6,c6,[1]⟩ ⟨⟨st.below b6,s6⟩,limbs_ok _,ok_unit⟩ ⟨nt,fun z hz => Nat.le_trans b5.size (n6 z hz)⟩ rfl hown hgrow hat)
    clear hown hgrow hat hlt2 st nt sn nn b5 s6 n6 b6
    go_wp2_with fail
    go_roundg f
    case measure => omega
    case rel => exact ⟨k + 1,_,_,f,L,D % L,al,ml,cl,an,mn,cn,rfl,rfl,Nat.le_refl _,Uh HN⟩




theorem slQ_nil (w:World):SlQ w none 0 0 []:=⟨rfl,Nat.le_refl _,.inl rfl,fun p hp => by cases hp⟩
set_option maxRecDepth 100000 in
set_option maxHeartbeats 8000000 in
theorem rterms_bad (g:Bool) (a b:Option Addr) (n c m d:Nat) (x y:List Nat) (pl:Int) (w:World) (hx:Sl w a n c x) (hy:Sl w b m d y) (ox:Ok x) (oy:Ok y) (hT:Tab64 w) (hm:MayR g x y = false) :
  Calls Tryz.prog 12 #[ratV g a n c b m d,.int .i64 pl] w fun e w' => TmPost g x y pl w e w':=by
 have bx:=Box.made w g a n c b m d
 obtain ⟨wa,hwa⟩:∃ wa,ratBox w g a n c b m d = wa:=⟨_,rfl⟩
 rw [hwa] at bx
 have hba:Below w.heap.size w wa:=by rw [← hwa]; exact bAl
 unfold ratBox at hwa
 have p0:=bx.d0
 have p1:=bx.d1
 have p2:=bx.d2
 have KM:=ratMay_any g a b n c m d x y wa (hx.below hba) (hy.below hba) ox oy (hT.below hba)
 rw [hm] at KM
 unfold ratV at KM ⊢
 have HKM:=Hd KM
 have HBa:=Hd hba
 have HR:=Hd (show TmR g x y pl [] false _ from TmR.bad hm)
 clear KM hx hy bx hba hm hT
 go_enter Tryz.func12,Tryz.ntmps12
 go_wp2_with fail
 refine (Uh HKM).mono ?_
 rintro _ wb ⟨rfl,hbb⟩
 have HB:=Hd ((Uh HBa).trans (hbb.mono (Uh HBa).size))
 clear hbb HKM
 go_wp2_with fail
 go_ret3
 exact ⟨none,0,0,[],false,_,rfl,slQ_nil _,Uh HR,Uh HB⟩
set_option maxRecDepth 100000 in
set_option maxHeartbeats 8000000 in
theorem rterms_neg (g:Bool) (a b:Option Addr) (n c m d:Nat) (x y:List Nat) (pl:Int) (w:World) (hx:Sl w a n c x) (hy:Sl w b m d y) (ox:Ok x) (oy:Ok y) (hT:Tab64 w) (hm:MayR g x y = true) (hp:pl < 1) :
  Calls Tryz.prog 12 #[ratV g a n c b m d,.int .i64 pl] w fun e w' => TmPost g x y pl w e w':=by
 have bx:=Box.made w g a n c b m d
 obtain ⟨wa,hwa⟩:∃ wa,ratBox w g a n c b m d = wa:=⟨_,rfl⟩
 rw [hwa] at bx
 have hba:Below w.heap.size w wa:=by rw [← hwa]; exact bAl
 unfold ratBox at hwa
 have p0:=bx.d0
 have p1:=bx.d1
 have p2:=bx.d2
 have KM:=ratMay_any g a b n c m d x y wa (hx.below hba) (hy.below hba) ox oy (hT.below hba)
 rw [hm] at KM
 unfold ratV at KM ⊢
 have HKM:=Hd KM
 have HBa:=Hd hba
 have HR:=Hd (show TmR g x y pl [] false _ from TmR.arg hm (.inl hp))
 have t1:decide (pl < 1) = true:=decide_eq_true hp
 clear KM hx hy bx hba hm hT
 go_enter Tryz.func12,Tryz.ntmps12
 go_wp2_with fail
 refine (Uh HKM).mono ?_
 rintro _ wb ⟨rfl,hbb⟩
 have HB:=Hd ((Uh HBa).trans (hbb.mono (Uh HBa).size))
 clear hbb HKM
 go_wp2_with fail
 go_ret3
 exact ⟨none,0,0,[],false,_,rfl,slQ_nil _,Uh HR,Uh HB⟩
set_option maxRecDepth 100000 in
set_option maxHeartbeats 8000000 in
theorem rterms_big (g:Bool) (a b:Option Addr) (n c m d:Nat) (x y:List Nat) (pl:Int) (w:World) (hx:Sl w a n c x) (hy:Sl w b m d y) (ox:Ok x) (oy:Ok y) (hT:Tab64 w) (hm:MayR g x y = true) (hp:1024 < pl) :
  Calls Tryz.prog 12 #[ratV g a n c b m d,.int .i64 pl] w fun e w' => TmPost g x y pl w e w':=by
 have bx:=Box.made w g a n c b m d
 obtain ⟨wa,hwa⟩:∃ wa,ratBox w g a n c b m d = wa:=⟨_,rfl⟩
 rw [hwa] at bx
 have hba:Below w.heap.size w wa:=by rw [← hwa]; exact bAl
 unfold ratBox at hwa
 have p0:=bx.d0
 have p1:=bx.d1
 have p2:=bx.d2
 have KM:=ratMay_any g a b n c m d x y wa (hx.below hba) (hy.below hba) ox oy (hT.below hba)
 rw [hm] at KM
 unfold ratV at KM ⊢
 have HKM:=Hd KM
 have HBa:=Hd hba
 have HR:=Hd (show TmR g x y pl [] false _ from TmR.arg hm (.inr hp))
 have t1:¬ pl < 1:=by omega
 have t2:decide (pl < 1) = false:=decide_eq_false t1
 have t3:decide (1024 < pl) = true:=decide_eq_true hp
 clear KM hx hy bx hba hm hT
 go_enter Tryz.func12,Tryz.ntmps12
 go_wp2_with fail
 refine (Uh HKM).mono ?_
 rintro _ wb ⟨rfl,hbb⟩
 have HB:=Hd ((Uh HBa).trans (hbb.mono (Uh HBa).size))
 clear hbb HKM
 go_wp2_with fail
 go_ret3
 exact ⟨none,0,0,[],false,_,rfl,slQ_nil _,Uh HR,Uh HB⟩
theorem rterms_any (g:Bool) (a b:Option Addr) (n c m d:Nat) (x y:List Nat) (pl:Int) (w:World) (hx:Sl w a n c x) (hy:Sl w b m d y) (ox:Ok x) (oy:Ok y) (hT:Tab64 w) :
  Calls Tryz.prog 12 #[ratV g a n c b m d,.int .i64 pl] w fun e w' => TmPost g x y pl w e w':=by
 cases hm:MayR g x y
 ·exact rterms_bad g a b n c m d x y pl w hx hy ox oy hT hm
 ·by_cases h1:pl < 1
  ·exact rterms_neg g a b n c m d x y pl w hx hy ox oy hT hm h1
  ·by_cases h2:1024 < pl
   ·exact rterms_big g a b n c m d x y pl w hx hy ox oy hT hm h2
   ·obtain ⟨k,rfl⟩:∃ k:Nat,pl = (k:Int):=⟨pl.toNat,by omega⟩
    exact rterms_ok g a b n c m d x y k w hx hy ox oy hm (by omega) (by omega) hT
def MakeF (g:Bool) (x y:List Nat):(Bool × List Nat × List Nat) × Int:=(((makeL g x y).neg,(makeL g x y).num,(makeL g x y).den),(makeL g x y).er)
theorem ratMake_F (neg:Bool) (a1 a2:Option Addr) (n1 c1 n2 c2:Nat) (xs ys:List Nat) (w:World) (h1:Sl w a1 n1 c1 xs) (h2:Sl w a2 n2 c2 ys) (ox:Ok xs) (oy:Ok ys) (hT:Tab64 w) :
  Calls Tryz.prog 9 #[.bool neg,.slice a1 n1 c1,.slice a2 n2 c2] w fun e w' => ResF w w' (MakeF neg xs ys) e:=ratMake_any neg a1 a2 n1 c1 n2 c2 xs ys w h1 h2 ox oy hT
theorem makeF_low {g:Bool} {x y:List Nat} (m1:MayL x = true) (m2:MayL y = true) (ox:Ok x) (oy:Ok y) (hy:y ≠ []):lowF g (val x) (val y) = MakeF g x y:=by
 have l1:=limbs_val ox (MayL.norm m1)
 have l2:=limbs_val oy (MayL.norm m2)
 have yp:val y ≠ 0:=fun e => by rw [e] at l2; exact hy (l2.symm.trans limbs_zero)
 have hM:makeL g x y = ⟨g && decide (x ≠ []),limbs (val x / Nat.gcd (val x) (val y)),limbs (val y / Nat.gcd (val x) (val y)),0⟩:=by
  unfold makeL
  rw [if_pos (by rw [m1,m2]; rfl),if_neg hy]
 unfold MakeF
 rw [hM]
 unfold lowF
 by_cases h0:val x = 0
 ·have hx:x = []:=by rw [h0] at l1; exact l1.symm.trans limbs_zero
  rw [if_pos h0,h0,Nat.gcd_zero_left,Nat.zero_div,Nat.div_self (Nat.pos_of_ne_zero yp),limbs_1,limbs_zero]
  simp [hx]
 ·have hx:x ≠ []:=fun e => h0 (by rw [e]; rfl)
  have b1:bigN (val x / Nat.gcd (val x) (val y)) = false:=by
   have:=limbs_mono (Nat.div_le_self (val x) (Nat.gcd (val x) (val y)))
   rw [l1] at this
   have:=MayL.len m1
   unfold bigN; simp; omega
  have b2:bigN (val y / Nat.gcd (val x) (val y)) = false:=by
   have:=limbs_mono (Nat.div_le_self (val y) (Nat.gcd (val x) (val y)))
   rw [l2] at this
   have:=MayL.len m2
   unfold bigN; simp; omega
  rw [if_neg h0,b1,b2]
  simp [hx]
end Go.Proofs.YtpbcnkcnjnefiaaGreatDoor
