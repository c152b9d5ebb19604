/- Ryf -/
import Derived.Test.YtgfpfjghdbcihaaGreatDoorRye
import Derived.Test.YtgfpfjghdbcihaaGreatDoorWrd
import Derived.Test.YtgfpfjghdbcihaaGreatDoorWkb
import Derived.Test.YtgfpfjghdbcihaaGreatDoorRyg
import Derived.Test.YtgfpfjghdbcihaaGreatDoorRyl
import Derived.Test.YtgfpfjghdbcihaaGreatDoorWr1
namespace Go.Proofs.YtgfpfjghdbcihaaGreatDoor
open Go.RowKit Go.Deep
set_option linter.unusedVariables false
set_option maxRecDepth 100000 in
set_option maxHeartbeats 16000000 in
theorem wterms_ok (g:Bool) (a b:Option Addr) (n c m d:Nat) (x y:List Nat) (mo:Nat) (w:World) (hx:Sl w a n c x) (hy:Sl w b m d y) (ox:Ok x) (oy:Ok y) (hm:MayR g x y = true) (h1:1 ≤ mo) (h2:mo ≤ 1024) (nx:a = none → c = 0) :
  Calls Tryz.prog 43 #[ratV g a n c b m d,.int .i64 (mo:Nat)] w fun e w' => TmPost g x y (mo:Nat) w e w':=by
 have bx:=Box.made w g a n c b m d
 obtain ⟨wa,hwa⟩:∃ wa,ratBox w g a n c b m d = wa:=⟨_,rfl⟩
 rw [hwa] at bx
 unfold ratBox at hwa
 have hba:=bx.bel
 have p0:=bx.d0
 have p1:=bx.d1
 have p2:=bx.d2
 obtain ⟨kx,ky,ey,_,_⟩:=MayR.parts hm
 have vy:=val_pos_of_may ky ey
 have KM:=wmay_any g a b n c m d x y wa (hx.below hba) (hy.below hba) ox oy
 rw [hm] at KM
 have KF:=fun (W:World) (hb:Below wa.heap.size wa W) => wsplit_any g a b n c m d x y W ((hx.below hba).below hb) ((hy.below hba).below hb) ox oy nx hm
 unfold ratV at KM ⊢
 have HKM:=Hd KM
 have HKF:=Hd KF
 have HM:=Hd (And.intro hm (And.intro ky (And.intro oy (And.intro vy (limbs_val oy (MayL.norm ky))))))
 have HY:=Hd (hy.below hba)
 have HBa:=Hd hba
 obtain ⟨i80,hi80,hz80,hs80,hb80⟩:=info_parts Tryz.info_rat
 have I80:=Hd (And.intro hi80 (And.intro hz80 (And.intro hs80 hb80)))
 have tk1:¬ (mo:Int) < 1:=by omega
 have tk2:¬ (1024:Int) < (mo:Int):=by omega
 have tk3:decide ((mo:Int) < 1) = false:=decide_eq_false tk1
 have tk4:decide ((1024:Int) < (mo:Int)) = false:=decide_eq_false tk2
 have HF0:=Hd (show ((mo:Nat):Int) = ((mo - 1:Nat):Int) + 1 by omega)
 obtain ⟨f0,hf0⟩:∃ f,mo - 1 = f:=⟨_,rfl⟩
 have hmo:mo = f0 + 1:=by omega
 have HMo:=Hd hmo
 have hf1:f0 ≤ 1023:=by omega
 clear KM KF hx hy bx hba hm kx ky ey vy hi80 hz80 hs80 hb80 hf0 hmo HF0
 go_enter Tryz.func43,Tryz.ntmps43
 go_wp2_with fail
 refine (Uh HKM).mono ?_
 rintro _ w1 ⟨rfl,b1⟩
 have f0':=(ck b1 p0)
 have f1':=(ck b1 p1)
 have f2':=(ck b1 p2)
 have KF1:=Uh HKF w1 b1
 unfold SpPost ratV at KF1
 have HKF1:=Hd KF1
 have HB1:=Hd b1
 clear b1 HKM HKF p0 p1 p2 KF1
 go_wp2_with fail
 refine (Uh HKF1).mono ?_
 rintro _ w2 ⟨aq,nq,cq,bq,mq,dq,al,nl,cl,rfl,sq,s1,sl,znl,b2⟩
 have g2':=(b2.cell (p:=⟨w.heap.size,2,none⟩) (World.block_lt_of_cell? _ _ f2')).trans f2'
 have hB2:=(Uh HB1).trans (b2.mono (Uh HB1).size)
 obtain ⟨SG,hSG⟩:∃ s,(g && decide (flQ g (val x) (val y) ≠ 0)) = s:=⟨_,rfl⟩
 rw [hSG]
 have HSG:=Hd hSG
 clear f0' f1' f2' HKF1 HB1 znl hSG
 obtain ⟨w3,hw3⟩:∃ x,w2.alloc (.cells #[.bool SG,.slice aq nq cq,.slice bq mq dq] 25) = x:=⟨_,rfl⟩
 have b3:Below w2.heap.size w2 w3:=by rw [← hw3]; exact bAl
 have hB3:=(Uh HBa).trans ((hB2.trans (b3.mono hB2.size)).mono (Uh HBa).size)
 have hsd:Sl w3 b m d (limbs (val y)):=by rw [(Uh HM).2.2.2.2]; exact ((Uh HY).below hB2).below b3
 have hTq:Tri w3 w2.heap.size (.bool SG) (.slice aq nq cq) (.slice bq mq dq):=by rw [← hw3]; exact Tri.made _ _ _ _ _
 have y0:=hTq.c0
 have y1:=hTq.c1
 have y2:=hTq.c2
 obtain ⟨w4,hw4⟩:∃ x,w3.alloc (.cells #[.bool SG,.slice aq nq cq,.slice bq mq dq] 25) = x:=⟨_,rfl⟩
 have b4:Below w3.heap.size w3 w4:=by rw [← hw4]; exact bAl
 have g3':=(b3.cell (p:=⟨w.heap.size,2,none⟩) (World.block_lt_of_cell? _ _ g2')).trans g2'
 have g4':=(b4.cell (p:=⟨w.heap.size,2,none⟩) (World.block_lt_of_cell? _ _ g3')).trans g3'
 have HX0:=Hd (show TmX w w4 (.slice (some ⟨w3.heap.size,0,none⟩) 1 1) 1 [⟨SG,aq,nq,cq,limbs (flQ g (val x) (val y)),bq,mq,dq,[1]⟩] (g && decide (flQ g (val x) (val y) ≠ 0),limbs (flQ g (val x) (val y)),[1]) f0 (val y) (flL g (val x) (val y)) [] f0 (val y) (flL g (val x) (val y)) b m d al nl cl from
  ⟨by rw [← hw4]; exact RowQ.one ⟨SG,aq,nq,cq,limbs (flQ g (val x) (val y)),bq,mq,dq,[1]⟩ ⟨⟨sq.below b3,s1.below b3⟩,limbs_ok _,ok_unit⟩ hB3,hsd.below b4,FarB.none hsd,(sl.below b3).below b4,FarB.none (sl.below b3),CfR.begin _ _ _ (flL_lt (Uh HM).2.2.2.1),by rw [Uh HSG]; rfl⟩)
 have HD0:=Hd (fun (D:Nat) (hD:D ≤ val y) => may_small (Uh HM).2.1 (Uh HM).2.2.1 hD)
 clear hsd hB3 hB2 b2 sq s1 sl hTq b4 b3
 go_wp2_with fail
 go_loopg [8,9,10] f0 (fun gq leftv lv denv wr => ∃ k ps ts f D L ad md cd al ml cl,leftv = .slice al ml cl ∧ denv = .slice ad md cd ∧ f ≤ gq ∧ Hid (TmX w wr lv k ps (g && decide (flQ g (val x) (val y) ≠ 0),limbs (flQ g (val x) (val y)),[1]) f0 (val y) (flL g (val x) (val y)) ts f D L ad md cd al ml cl))
 case atStart => exact ⟨1,_,[],f0,_,_,_,_,_,_,_,_,rfl,rfl,Nat.le_refl _,Uh HX0⟩
 case round =>
  clear HX0
  obtain ⟨k,ps,ts,f,D,L,ad,md,cd,al,ml,cl,rfl,rfl,hgq,HX⟩:=hrel
  obtain ⟨av,cv,rfl,_⟩:=(Uh HX).row.form
  have hk:=(Uh HX).cnt
  by_cases hL:L = 0
  ·have hml:ml = 0:=by have:=(Uh HX).sl.len; rw [hL,limbs_zero] at this; simpa using this.symm
   subst hml
   have HP:=Hd ((Uh HX).post (Uh HM).1 (show ((mo:Nat):Int) = (f0:Int) + 1 by have:=Uh HMo; omega) hf1 (.inl hL) (Below.refl _ _))
   rw [decide_eq_true hL] at HP
   clear hk
   go_wp2_with fail
   go_ret3
   exact Uh HP
  ·have hml:0 < ml:=by
    rcases Nat.eq_zero_or_pos ml with e | e
    ·exfalso
     have:=(Uh HX).sl.len
     rw [e] at this
     exact hL (limbs_eq_nil.1 (List.eq_nil_of_length_eq_zero this))
    ·exact e
   have tl:(0:Int) < (ml:Int):=by omega
   have tl2:((ml:Int) == 0) = false:=by simp; omega
   rcases f with _ | f
   ·have tk:((k:Int) == (mo:Int)) = true:=by have:=Uh HMo; simp; omega
    have HP:=Hd ((Uh HX).post (Uh HM).1 (show ((mo:Nat):Int) = (f0:Int) + 1 by have:=Uh HMo; omega) hf1 (.inr rfl) (Below.refl _ _))
    rw [decide_eq_false hL] at HP
    clear hk
    go_wp2_with fail
    go_ret3
    exact Uh HP
   ·have tk:((k:Int) == (mo:Int)) = false:=by have:=Uh HMo; simp; omega
    have tk5:¬ (k:Int) = (mo:Int):=by have:=Uh HMo; omega
    have hk9:k ≤ 1024:=by have:=Uh HMo; omega
    have kD:=Uh HD0 D (Uh HX).cf.dle
    have kL:=Uh HD0 L (Nat.le_trans (Nat.le_of_lt (Uh HX).cf.lt) (Uh HX).cf.dle)
    have hD0:limbs D ≠ []:=by rw [Ne,limbs_eq_nil]; have:=(Uh HX).cf.lt; omega
    have hL0:limbs L ≠ []:=by rw [Ne,limbs_eq_nil]; exact hL
    have KV:=wdiv_any ad al md cd ml cl (limbs D) (limbs L) wr (Uh HX).sd ((Uh HX).sd.nilc hD0) (Uh HX).sl (limbs_ok _) (limbs_ok _) (limbs_norm _) (limbs_norm _) hL0 (by have:=(Uh HX).sd.len; have:=MayL.len kD; omega) (by have:=(Uh HX).sl.len; have:=MayL.len kL; omega)
    rw [limbs_v,limbs_v] at KV
    have KV':=Hd KV
    have HL:=Hd hL
    have HkD:=Hd kD
    clear KV kD kL hk hL hD0 hL0
    go_wp2_with fail
    refine (Uh KV').mono ?_
    rintro _ w5 ⟨at_,mt,ct,an,mn,cn,rfl,⟨st,nt,zt⟩,⟨sn,nn,zn⟩,b5⟩
    have hlt9:(limbs (D / L)).length ≤ 2048:=by have:=MayL.len (may_div (Uh HkD) (limbs_ok _) L); rw [limbs_v] at this; exact this
    have KW:=wplain_any at_ mt ct (D / L) w5 st zt (by have:=st.len; omega)
    have KW':=Hd KW
    clear hlt9 zn zt
    have H5:=Hd (And.intro st (And.intro nt (And.intro sn (And.intro nn b5))))
    clear KW st nt sn nn b5 KV'
    go_wp2_with fail
    refine (Uh KW').mono ?_
    rintro _ w6 ⟨v6,rfl,a9,m9,c9,a6,m6,c6,rfl,s9,s6,n9,n6,b6⟩
    unfold ratV
    have H6:=Hd (And.intro s6 (And.intro n6 (And.intro b6 (And.intro s9 n9))))
    have b56:=(Uh H5).2.2.2.2.trans (b6.mono (Uh H5).2.2.2.2.size)
    have HOw:=Hd (fun (o:Obj) => ((Uh HX).row.below b56).own.alloc o)
    have HSz:=Hd (((Uh HX).row.below b56).bel.size)
    clear s6 n6 b6 s9 n9 KW' b56
    go_wp2_with (at_builtin; refine wpList_append_lies _ rfl _ _ 50 rfl w.heap.size 25 i80 _ 3 56 Tryz.underlying50 (Uh I80).1 (Uh I80).2.1 (Uh I80).2.2.1 (Uh I80).2.2.2 rfl (by decide) _ k (celQ ps) rfl (Uh HOw _) ⟨w6.heap.size,0,none⟩ 1 1 [.bool false,.slice a9 m9 c9,.slice a6 m6 c6] rfl rfl (World.news_of_block (alloc_block _ _)) (rat_one ⟨false,a9,m9,c9,[],a6,m6,c6,[]⟩) (by decide) ?c31 ?c41 ?c51 (w6.heap.size + 1) (by simp) ?_)
    case c31 => unfold maxLen; omega
    case c41 => omega
    case c51 => have:=Uh HSz; simp; omega
    intro g1 cc w7 hown hgrow hat hlt2
    obtain ⟨st,nt,sn,nn,b5⟩:=Uh H5
    obtain ⟨s6,n6,b6,s9,n9⟩:=Uh H6
    have HN:=Hd ((Uh HX).next (Uh HL) b5 sn nn b6 ⟨false,a9,m9,c9,limbs (D / L),a6,m6,c6,[1]⟩ ⟨⟨s9,s6⟩,limbs_ok _,ok_unit⟩ ⟨fun z hz => Nat.le_trans b5.size (n9 z hz),fun z hz => Nat.le_trans b5.size (n6 z hz)⟩ rfl hown hgrow hat)
    clear hown hgrow hat hlt2 st nt sn nn b5 s6 n6 b6 s9 n9
    go_wp2_with fail
    go_roundg f
    case measure => omega
    case rel => exact ⟨k + 1,_,_,f,L,D % L,al,ml,cl,an,mn,cn,rfl,rfl,Nat.le_refl _,Uh HN⟩
theorem slQ_nil (w:World):SlQ w none 0 0 []:=⟨rfl,Nat.le_refl _,.inl rfl,fun p hp => by cases hp⟩
set_option maxRecDepth 100000 in
set_option maxHeartbeats 8000000 in
theorem rterms_bad (g:Bool) (a b:Option Addr) (n c m d:Nat) (x y:List Nat) (pl:Int) (w:World) (hx:Sl w a n c x) (hy:Sl w b m d y) (ox:Ok x) (oy:Ok y) (hT:Tab64 w) (hm:MayR g x y = false) :
  Calls Tryz.prog 42 #[ratV g a n c b m d,.int .i64 pl] w fun e w' => TmPost g x y pl w e w':=by
 have bx:=Box.made w g a n c b m d
 obtain ⟨wa,hwa⟩:∃ wa,ratBox w g a n c b m d = wa:=⟨_,rfl⟩
 rw [hwa] at bx
 have hba:Below w.heap.size w wa:=by rw [← hwa]; exact bAl
 unfold ratBox at hwa
 have p0:=bx.d0
 have p1:=bx.d1
 have p2:=bx.d2
 have KM:=ratMay_any g a b n c m d x y wa (hx.below hba) (hy.below hba) ox oy (hT.below hba)
 rw [hm] at KM
 unfold ratV at KM ⊢
 have HKM:=Hd KM
 have HBa:=Hd hba
 have HR:=Hd (show TmR g x y pl [] false _ from TmR.bad hm)
 clear KM hx hy bx hba hm hT
 go_enter Tryz.func42,Tryz.ntmps42
 go_wp2_with fail
 refine (Uh HKM).mono ?_
 rintro _ wb ⟨rfl,hbb⟩
 have HB:=Hd ((Uh HBa).trans (hbb.mono (Uh HBa).size))
 clear hbb HKM
 go_wp2_with fail
 go_ret3
 exact ⟨none,0,0,[],false,_,rfl,slQ_nil _,Uh HR,Uh HB⟩
set_option maxRecDepth 100000 in
set_option maxHeartbeats 8000000 in
theorem rterms_neg (g:Bool) (a b:Option Addr) (n c m d:Nat) (x y:List Nat) (pl:Int) (w:World) (hx:Sl w a n c x) (hy:Sl w b m d y) (ox:Ok x) (oy:Ok y) (hT:Tab64 w) (hm:MayR g x y = true) (hp:pl < 1) :
  Calls Tryz.prog 42 #[ratV g a n c b m d,.int .i64 pl] w fun e w' => TmPost g x y pl w e w':=by
 have bx:=Box.made w g a n c b m d
 obtain ⟨wa,hwa⟩:∃ wa,ratBox w g a n c b m d = wa:=⟨_,rfl⟩
 rw [hwa] at bx
 have hba:Below w.heap.size w wa:=by rw [← hwa]; exact bAl
 unfold ratBox at hwa
 have p0:=bx.d0
 have p1:=bx.d1
 have p2:=bx.d2
 have KM:=ratMay_any g a b n c m d x y wa (hx.below hba) (hy.below hba) ox oy (hT.below hba)
 rw [hm] at KM
 unfold ratV at KM ⊢
 have HKM:=Hd KM
 have HBa:=Hd hba
 have HR:=Hd (show TmR g x y pl [] false _ from TmR.arg hm (.inl hp))
 have t1:decide (pl < 1) = true:=decide_eq_true hp
 clear KM hx hy bx hba hm hT
 go_enter Tryz.func42,Tryz.ntmps42
 go_wp2_with fail
 refine (Uh HKM).mono ?_
 rintro _ wb ⟨rfl,hbb⟩
 have HB:=Hd ((Uh HBa).trans (hbb.mono (Uh HBa).size))
 clear hbb HKM
 go_wp2_with fail
 go_ret3
 exact ⟨none,0,0,[],false,_,rfl,slQ_nil _,Uh HR,Uh HB⟩
set_option maxRecDepth 100000 in
set_option maxHeartbeats 8000000 in
theorem rterms_big (g:Bool) (a b:Option Addr) (n c m d:Nat) (x y:List Nat) (pl:Int) (w:World) (hx:Sl w a n c x) (hy:Sl w b m d y) (ox:Ok x) (oy:Ok y) (hT:Tab64 w) (hm:MayR g x y = true) (hp:1024 < pl) :
  Calls Tryz.prog 42 #[ratV g a n c b m d,.int .i64 pl] w fun e w' => TmPost g x y pl w e w':=by
 have bx:=Box.made w g a n c b m d
 obtain ⟨wa,hwa⟩:∃ wa,ratBox w g a n c b m d = wa:=⟨_,rfl⟩
 rw [hwa] at bx
 have hba:Below w.heap.size w wa:=by rw [← hwa]; exact bAl
 unfold ratBox at hwa
 have p0:=bx.d0
 have p1:=bx.d1
 have p2:=bx.d2
 have KM:=ratMay_any g a b n c m d x y wa (hx.below hba) (hy.below hba) ox oy (hT.below hba)
 rw [hm] at KM
 unfold ratV at KM ⊢
 have HKM:=Hd KM
 have HBa:=Hd hba
 have HR:=Hd (show TmR g x y pl [] false _ from TmR.arg hm (.inr hp))
 have t1:¬ pl < 1:=by omega
 have t2:decide (pl < 1) = false:=decide_eq_false t1
 have t3:decide (1024 < pl) = true:=decide_eq_true hp
 clear KM hx hy bx hba hm hT
 go_enter Tryz.func42,Tryz.ntmps42
 go_wp2_with fail
 refine (Uh HKM).mono ?_
 rintro _ wb ⟨rfl,hbb⟩
 have HB:=Hd ((Uh HBa).trans (hbb.mono (Uh HBa).size))
 clear hbb HKM
 go_wp2_with fail
 go_ret3
 exact ⟨none,0,0,[],false,_,rfl,slQ_nil _,Uh HR,Uh HB⟩
theorem rterms_any (g:Bool) (a b:Option Addr) (n c m d:Nat) (x y:List Nat) (pl:Int) (w:World) (hx:Sl w a n c x) (hy:Sl w b m d y) (ox:Ok x) (oy:Ok y) (hT:Tab64 w) :
  Calls Tryz.prog 42 #[ratV g a n c b m d,.int .i64 pl] w fun e w' => TmPost g x y pl w e w':=by
 cases hm:MayR g x y
 ·exact rterms_bad g a b n c m d x y pl w hx hy ox oy hT hm
 ·by_cases h1:pl < 1
  ·exact rterms_neg g a b n c m d x y pl w hx hy ox oy hT hm h1
  ·by_cases h2:1024 < pl
   ·exact rterms_big g a b n c m d x y pl w hx hy ox oy hT hm h2
   ·obtain ⟨k,rfl⟩:∃ k:Nat,pl = (k:Int):=⟨pl.toNat,by omega⟩
    exact rterms_ok g a b n c m d x y k w hx hy ox oy hm (by omega) (by omega) hT
set_option maxRecDepth 100000 in
set_option maxHeartbeats 8000000 in
theorem wterms_bad (g:Bool) (a b:Option Addr) (n c m d:Nat) (x y:List Nat) (pl:Int) (w:World) (hx:Sl w a n c x) (hy:Sl w b m d y) (ox:Ok x) (oy:Ok y) (hm:MayR g x y = false) :
  Calls Tryz.prog 43 #[ratV g a n c b m d,.int .i64 pl] w fun e w' => TmPost g x y pl w e w':=by
 have bx:=Box.made w g a n c b m d
 obtain ⟨wa,hwa⟩:∃ wa,ratBox w g a n c b m d = wa:=⟨_,rfl⟩
 rw [hwa] at bx
 have hba:Below w.heap.size w wa:=by rw [← hwa]; exact bAl
 unfold ratBox at hwa
 have p0:=bx.d0
 have p1:=bx.d1
 have p2:=bx.d2
 have KM:=wmay_any g a b n c m d x y wa (hx.below hba) (hy.below hba) ox oy
 rw [hm] at KM
 unfold ratV at KM ⊢
 have HKM:=Hd KM
 have HBa:=Hd hba
 have HR:=Hd (show TmR g x y pl [] false _ from TmR.bad hm)
 clear KM hx hy bx hba hm
 go_enter Tryz.func43,Tryz.ntmps43
 go_wp2_with fail
 refine (Uh HKM).mono ?_
 rintro _ wb ⟨rfl,hbb⟩
 have HB:=Hd ((Uh HBa).trans (hbb.mono (Uh HBa).size))
 clear hbb HKM
 go_wp2_with fail
 go_ret3
 exact ⟨none,0,0,[],false,_,rfl,slQ_nil _,Uh HR,Uh HB⟩
set_option maxRecDepth 100000 in
set_option maxHeartbeats 8000000 in
theorem wterms_neg (g:Bool) (a b:Option Addr) (n c m d:Nat) (x y:List Nat) (pl:Int) (w:World) (hx:Sl w a n c x) (hy:Sl w b m d y) (ox:Ok x) (oy:Ok y) (hm:MayR g x y = true) (hp:pl < 1) :
  Calls Tryz.prog 43 #[ratV g a n c b m d,.int .i64 pl] w fun e w' => TmPost g x y pl w e w':=by
 have bx:=Box.made w g a n c b m d
 obtain ⟨wa,hwa⟩:∃ wa,ratBox w g a n c b m d = wa:=⟨_,rfl⟩
 rw [hwa] at bx
 have hba:Below w.heap.size w wa:=by rw [← hwa]; exact bAl
 unfold ratBox at hwa
 have p0:=bx.d0
 have p1:=bx.d1
 have p2:=bx.d2
 have KM:=wmay_any g a b n c m d x y wa (hx.below hba) (hy.below hba) ox oy
 rw [hm] at KM
 unfold ratV at KM ⊢
 have HKM:=Hd KM
 have HBa:=Hd hba
 have HR:=Hd (show TmR g x y pl [] false _ from TmR.arg hm (.inl hp))
 have t1:decide (pl < 1) = true:=decide_eq_true hp
 clear KM hx hy bx hba hm
 go_enter Tryz.func43,Tryz.ntmps43
 go_wp2_with fail
 refine (Uh HKM).mono ?_
 rintro _ wb ⟨rfl,hbb⟩
 have HB:=Hd ((Uh HBa).trans (hbb.mono (Uh HBa).size))
 clear hbb HKM
 go_wp2_with fail
 go_ret3
 exact ⟨none,0,0,[],false,_,rfl,slQ_nil _,Uh HR,Uh HB⟩
set_option maxRecDepth 100000 in
set_option maxHeartbeats 8000000 in
theorem wterms_big (g:Bool) (a b:Option Addr) (n c m d:Nat) (x y:List Nat) (pl:Int) (w:World) (hx:Sl w a n c x) (hy:Sl w b m d y) (ox:Ok x) (oy:Ok y) (hm:MayR g x y = true) (hp:1024 < pl) :
  Calls Tryz.prog 43 #[ratV g a n c b m d,.int .i64 pl] w fun e w' => TmPost g x y pl w e w':=by
 have bx:=Box.made w g a n c b m d
 obtain ⟨wa,hwa⟩:∃ wa,ratBox w g a n c b m d = wa:=⟨_,rfl⟩
 rw [hwa] at bx
 have hba:Below w.heap.size w wa:=by rw [← hwa]; exact bAl
 unfold ratBox at hwa
 have p0:=bx.d0
 have p1:=bx.d1
 have p2:=bx.d2
 have KM:=wmay_any g a b n c m d x y wa (hx.below hba) (hy.below hba) ox oy
 rw [hm] at KM
 unfold ratV at KM ⊢
 have HKM:=Hd KM
 have HBa:=Hd hba
 have HR:=Hd (show TmR g x y pl [] false _ from TmR.arg hm (.inr hp))
 have t1:¬ pl < 1:=by omega
 have t2:decide (pl < 1) = false:=decide_eq_false t1
 have t3:decide (1024 < pl) = true:=decide_eq_true hp
 clear KM hx hy bx hba hm
 go_enter Tryz.func43,Tryz.ntmps43
 go_wp2_with fail
 refine (Uh HKM).mono ?_
 rintro _ wb ⟨rfl,hbb⟩
 have HB:=Hd ((Uh HBa).trans (hbb.mono (Uh HBa).size))
 clear hbb HKM
 go_wp2_with fail
 go_ret3
 exact ⟨none,0,0,[],false,_,rfl,slQ_nil _,Uh HR,Uh HB⟩
theorem wterms_any (g:Bool) (a b:Option Addr) (n c m d:Nat) (x y:List Nat) (pl:Int) (w:World) (hx:Sl w a n c x) (hy:Sl w b m d y) (ox:Ok x) (oy:Ok y) (nx:a = none → c = 0) :
  Calls Tryz.prog 43 #[ratV g a n c b m d,.int .i64 pl] w fun e w' => TmPost g x y pl w e w':=by
 cases hm:MayR g x y
 ·exact wterms_bad g a b n c m d x y pl w hx hy ox oy hm
 ·by_cases h1:pl < 1
  ·exact wterms_neg g a b n c m d x y pl w hx hy ox oy hm h1
  ·by_cases h2:1024 < pl
   ·exact wterms_big g a b n c m d x y pl w hx hy ox oy hm h2
   ·obtain ⟨k,rfl⟩:∃ k:Nat,pl = (k:Int):=⟨pl.toNat,by omega⟩
    exact wterms_ok g a b n c m d x y k w hx hy ox oy hm (by omega) (by omega) nx
theorem cfT_len (f d l:Nat):(cfT f d l).1.length ≤ f:=by
 induction f generalizing d l with
 | zero => simp [cfT]
 | succ f ih =>
  unfold cfT
  split
  ·simp
  ·have:=ih l (d % l)
   simp
   omega
theorem tmR_len {g:Bool} {x y:List Nat} {mo:Int} {ps:List Nq} {b:Bool} {e:Int} (h:TmR g x y mo (ps.map conQ) b e):ps.length ≤ 140737488355328:=by
 have hl:ps.length = (ps.map conQ).length:=by simp
 generalize ps.map conQ = z at *
 cases h with
 | bad h => rw [hl]; simp
 | arg h hp => rw [hl]; simp
 | ok f h hp hf =>
  have:=cfT_len f (val y) (flL g (val x) (val y))
  rw [hl]
  simp
  omega
set_option maxRecDepth 100000 in
set_option maxHeartbeats 64000000 in
theorem terms_any (g:Bool) (x y:List Nat) (ax bx:Option Addr) (nx cx mx dx:Nat) (a_y:Option Addr) (n_y c_y:Nat) (py:List Nq) (aa ba:Option Addr) (na ca ma da:Nat) (mo:Int) (a_l:Option Addr) (n_l c_l:Nat) (pl:List Nq) (w:World)
  (hx1:Sl w ax nx cx x) (hx2:Sl w bx mx dx y) (ha1:Sl w aa na ca x) (ha2:Sl w ba ma da y) (ox:Ok x) (oy:Ok y) (za:aa = none → ca = 0) (hy:SlQ w a_y n_y c_y py) (b_y:n_y ≤ 140737488355328) (hl:SlQ w a_l n_l c_l pl) (b_l:n_l ≤ 140737488355328) (zl:∀ p ∈ pl,p.a = none → p.c = 0) (hc:py.map conQ = pl.map conQ) (hT:Tab64 w) :
  Calls Tryz.prog 13 #[ratV g ax nx cx bx mx dx,.slice a_y n_y c_y,ratV g aa na ca ba ma da,.int .i64 mo,.slice a_l n_l c_l] w fun e w' => e = .returned (.bool true) ∧ Below w.heap.size w w':=by
 have b1:=Box.made w g ax nx cx bx mx dx
 obtain ⟨wa,hwa⟩:∃ wa,ratBox w g ax nx cx bx mx dx = wa:=⟨_,rfl⟩
 rw [hwa] at b1
 have b2:=Box.made wa g aa na ca ba ma da
 obtain ⟨wb,hwb⟩:∃ wb,ratBox wa g aa na ca ba ma da = wb:=⟨_,rfl⟩
 rw [hwb] at b2
 unfold ratBox at hwa hwb
 have hba:=b1.bel
 have hbb:=hba.trans (b2.bel.mono hba.size)
 have b1':=b1.keep b2.bel
 have p0:=b1'.d0
 have p1:=b1'.d1
 have p2:=b1'.d2
 have q0:=b2.d0
 have q1:=b2.d1
 have q2:=b2.d2
 have K1:=rterms_any g ax bx nx cx mx dx x y mo wb (hx1.below hbb) (hx2.below hbb) ox oy (hT.below hbb)
 have K2:=fun (W:World) (hb:Below wb.heap.size wb W) => wterms_any g aa ba na ca ma da x y mo W ((ha1.below hbb).below hb) ((ha2.below hbb).below hb) ox oy za
 have K3:=fun (W:World) (hb:Below wb.heap.size wb W) => rfromTerms_any a_y n_y c_y py W ((hy.below hbb).below hb) b_y ((hT.below hbb).below hb)
 have K4:=fun (W:World) (hb:Below wb.heap.size wb W) => wfromTerms_any a_l n_l c_l pl W ((hl.below hbb).below hb) b_l zl
 obtain ⟨⟨⟨gr,xr,yr⟩,er⟩,hr⟩:∃ r,FtF py = r:=⟨_,rfl⟩
 have hr2:FtF pl = ((gr,xr,yr),er):=by rw [← ftF_con hc]; exact hr
 rw [hr] at K3
 rw [hr2] at K4
 unfold ratV at K1 K2 ⊢
 have HK1:=Hd K1
 have HK2:=Hd K2
 have HK3:=Hd K3
 have HK4:=Hd K4
 have HBB:=Hd hbb
 clear K1 K2 K3 K4 hbb b1 b1' b2 hba hr hr2 hc hx1 hx2 ha1 ha2 hy hl hT zl
 go_enter Tryz.func13,Tryz.ntmps13
 go_wp2_with fail
 refine (Uh HK1).mono ?_
 rintro _ w1 ⟨a1,k1,c1,ps1,f1,er1,rfl,s1,T1,bel1⟩
 have g0:=(ck bel1 q0)
 have g1:=(ck bel1 q1)
 have g2:=(ck bel1 q2)
 have HB1:=Hd bel1
 have HT1:=Hd T1
 have HS1:=Hd s1
 clear s1 T1 bel1 HK1 p0 p1 p2 q0 q1 q2
 go_wp2_with fail
 refine (Uh HK2 _ (Uh HB1)).mono ?_
 rintro _ w2 ⟨a2,k2,c2,ps2,f2,er2,rfl,s2,T2,bel2⟩
 obtain ⟨hcon,rfl,rfl⟩:=(Uh HT1).uniq T2
 have hk:k1 = k2:=by have:=(Uh HS1).len; have:=s2.len; have:=congrArg List.length hcon; simp at this; omega
 subst hk
 have hk1024:k1 ≤ 140737488355328:=(Uh HS1).len ▸ tmR_len (Uh HT1)
 have KS:=fun (W:World) (hb:Below w2.heap.size w2 W) => sameRats_any a1 a2 k1 c1 c2 ps1 ps2 W (((Uh HS1).below bel2).below hb) (s2.below hb) hk1024 hcon
 have HKS:=Hd KS
 have HB2:=Hd ((Uh HB1).trans (bel2.mono (Uh HB1).size))
 clear KS hk1024 hcon s2 T2 bel2 HS1 HT1 HB1 HK2 g0 g1 g2
 go_wp2_with fail
 refine (Uh HK3 _ (Uh HB2)).mono ?_
 rintro _ w3 ⟨v3,rfl,ar,nr,cr,br,mr,dr,rfl,sx3,sy3,nx3,ny3,bel3⟩
 dsimp only at sx3 sy3
 unfold ratV
 obtain ⟨w4,hw4⟩:∃ x,w3.alloc (.cells #[.bool gr,.slice ar nr cr,.slice br mr dr] 25) = x:=⟨_,rfl⟩
 have hal:Below w3.heap.size w3 w4:=by rw [← hw4]; exact bAl
 have TR:=Hd (show Tri w4 w3.heap.size (.bool gr) (.slice ar nr cr) (.slice br mr dr) by rw [← hw4]; exact Tri.made _ _ _ _ _)
 have hb24:=bel3.trans (hal.mono bel3.size)
 have HB24:=Hd hb24
 have HB4:=Hd ((Uh HB2).trans (hb24.mono (Uh HB2).size))
 have S3:=Hd (And.intro (sx3.below hal) (sy3.below hal))
 clear sx3 sy3 nx3 ny3 bel3 hal hb24 HK3
 go_wp2_with fail
 refine (Uh HK4 _ (Uh HB4)).mono ?_
 rintro _ w5 ⟨v5,rfl,as_,ns,cs,bs,ms,ds,rfl,sx5,sy5,nx5,ny5,bel5⟩
 dsimp only at sx5 sy5
 unfold ratV
 obtain ⟨w6,hw6⟩:∃ x,w5.alloc (.cells #[.bool gr,.slice as_ ns cs,.slice bs ms ds] 25) = x:=⟨_,rfl⟩
 have hal:Below w5.heap.size w5 w6:=by rw [← hw6]; exact bAl
 have hTS:Tri w6 w5.heap.size (.bool gr) (.slice as_ ns cs) (.slice bs ms ds):=by rw [← hw6]; exact Tri.made _ _ _ _ _
 have hb46:=bel5.trans (hal.mono bel5.size)
 have hTR:=(Uh TR).keep hb46
 have hb26:=(Uh HB24).trans (hb46.mono (Uh HB24).size)
 have HKS6:=Hd (Uh HKS w6 hb26)
 have HB6:=Hd ((Uh HB4).trans (hb46.mono (Uh HB4).size))
 have S5:=Hd (And.intro ((Uh S3).1.below hb46) (And.intro ((Uh S3).2.below hb46) (And.intro (sx5.below hal) (sy5.below hal))))
 have HTR:=Hd hTR
 have HTS:=Hd hTS
 clear sx5 sy5 nx5 ny5 bel5 hal hb46 hb26 HK4 hTR hTS HKS S3 TR HB24
 go_wp2_with fail
 refine (Uh HKS6).mono ?_
 rintro _ w7 ⟨rfl,bel7⟩
 have hTR:=(Uh HTR).keep bel7
 have hTS:=(Uh HTS).keep bel7
 have r0:=hTR.c0
 have r1:=hTR.c1
 have r2:=hTR.c2
 have t0:=hTS.c0
 have t1:=hTS.c1
 have t2:=hTS.c2
 have HB7:=Hd ((Uh HB6).trans (bel7.mono (Uh HB6).size))
 have KL:=like_any gr ar br as_ bs nr cr mr dr ns cs ms ds xr yr er w7 ((Uh S5).1.below bel7) ((Uh S5).2.1.below bel7) ((Uh S5).2.2.1.below bel7) ((Uh S5).2.2.2.below bel7)
 unfold ratV at KL
 have HKL:=Hd KL
 have HKN:=Hd (rnum2_any er1 w7)
 clear KL bel7 hTR hTS HTR HTS HKS6 HB6
 go_wp2_with fail
 refine (Uh HKN).mono ?_
 rintro _ _ ⟨rfl,hw⟩
 obtain rfl:=hw.symm
 clear hw HKN
 go_wp2_with fail
 refine (Uh HKL).mono ?_
 rintro _ w8 ⟨rfl,bel8⟩
 have HB8:=Hd ((Uh HB7).trans (bel8.mono (Uh HB7).size))
 clear bel8 HKL
 try go_wp2_with fail
 try go_ret
 exact ⟨rfl,(Uh HBB).trans ((Uh HB8).mono (Uh HBB).size)⟩
end Go.Proofs.YtgfpfjghdbcihaaGreatDoor
