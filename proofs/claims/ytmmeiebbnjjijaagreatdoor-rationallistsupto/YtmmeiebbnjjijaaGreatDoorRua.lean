/- Ru6 -/
import Derived.Test.YtmmeiebbnjjijaaGreatDoorRu5
namespace Go.Proofs.YtmmeiebbnjjijaaGreatDoor
open Go.RowKit Go.Deep
set_option linter.unusedVariables false
set_option maxRecDepth 100000 in
set_option maxHeartbeats 8000000 in
theorem foldNo_any (g:Bool) (az bz:Option Addr) (nz cz mz dz:Nat) (a:Option Addr) (n c:Nat) (ps:List Nq) (fv:Value) (w:World) (B:Nat) (h:SlQ w a n c ps) (hn:n ≤ 140737488355328) (hT:Tab64 w) (hm:mayQ ps = false) :
  Calls Tryz.prog 126 #[ratV g az nz cz bz mz dz,.slice a n c,fv] w fun e w' => FdP w w' B ((false,[],[]),40) e:=by
 obtain ⟨wz,hwz⟩:∃ q,w.alloc (.cells #[.bool g,.slice az nz cz,.slice bz mz dz] 25) = q:=⟨_,rfl⟩
 have hbz:Below w.heap.size w wz:=by rw [← hwz]; exact bAl
 obtain ⟨wo,hwo⟩:∃ q,wz.alloc (.cells #[.bool false,.slice none 0 0,.slice none 0 0] 25) = q:=⟨_,rfl⟩
 have hbo:Below wz.heap.size wz wo:=by rw [← hwo]; exact bAl
 have hO:=Out.made wz
 rw [hwo] at hO
 have hbw:=hbz.trans (hbo.mono hbz.size)
 have KA:=rmayAll_any a n c ps wo (h.below hbw) hn (hT.below hbw)
 rw [hm] at KA
 have HK:=Hd KA
 have HO:=Hd (And.intro hO (And.intro hbw hbz.size))
 clear KA h hm hO hbo hbz hbw hT
 unfold ratV
 go_enter Tryz.func126,Tryz.ntmps126
 go_wp2_with fail
 refine (Uh HK).mono ?_
 rintro _ w1 ⟨rfl,hb1⟩
 have hOo:=(Uh HO).1.keep hb1
 have hB1:=(Uh HO).2.1.trans (hb1.mono (Uh HO).2.1.size)
 have HX:=Hd (And.intro (ret_F (w:=w) (B:=B) (gy:=false) hOo (sl_nil _) (sl_nil _) (newAt_nil _) (newAt_nil _) (fun p hp => by cases hp) (fun p hp => by cases hp) hB1 (Uh HO).2.2 40) (three_set _ wz.heap.size (.bool false) (.slice none 0 0) (.slice none 0 0) hOo.cells))
 obtain ⟨j3,u3_⟩:=hOo.cells 0 (by decide)
 obtain ⟨j4,u4_⟩:=hOo.cells 1 (by decide)
 obtain ⟨j5,u5_⟩:=hOo.cells 2 (by decide)
 have v3:=hOo.fz 0 (by decide)
 have v4:=hOo.fz 1 (by decide)
 have v5:=hOo.fz 2 (by decide)
 clear HK HO hb1 hOo hB1
 go_wp2_with fail
 try go_region
 all_goals
  try go_wp2_with fail
  obtain ⟨hR,t0_,t1_,t2_,cc⟩:=Uh HX
  generalize ((w1.setCell ⟨wz.heap.size,0,none⟩ (.bool false)).setCell ⟨wz.heap.size,1,none⟩ (.slice none 0 0)).setCell ⟨wz.heap.size,2,none⟩ (.slice none 0 0) = wq at *
  refine bodyPost_ret (by simp [results,Tryz.results126,go_sem,t0_,t1_,t2_]; try rfl) rfl ?_
  first | exact hR | exact hR.drewQ
set_option maxRecDepth 100000 in
set_option maxHeartbeats 16000000 in
theorem foldMul_any (g:Bool) (az bz:Option Addr) (nz cz mz dz:Nat) (x y:List Nat) (a:Option Addr) (n c:Nat) (ps:List Nq) (w:World) (B:Nat) (hx:Sl w az nz cz x) (hy:Sl w bz mz dz y) (ox:Ok x) (oy:Ok y) (hmz:MayR g x y = true) (na:NewAt B az) (nb:NewAt B bz) (hB:B ≤ w.heap.size) (h:SlQ w a n c ps) (hn:n ≤ 140737488355328) (hT:Tab64 w) (hm:mayQ ps = true) :
  Calls Tryz.prog 126 #[ratV g az nz cz bz mz dz,.slice a n c,.func (.func 115) #[] #[]] w fun e w' => FdP w w' B (fdQ MulF ps (g,x,y)) e:=by
 obtain ⟨⟨⟨SG,LN,LD⟩,ER⟩,hFF⟩:∃ r,fdQ MulF ps (g,x,y) = r:=⟨_,rfl⟩
 rw [hFF]
 obtain ⟨wz,hwz⟩:∃ q,w.alloc (.cells #[.bool g,.slice az nz cz,.slice bz mz dz] 25) = q:=⟨_,rfl⟩
 have hbz:Below w.heap.size w wz:=by rw [← hwz]; exact bAl
 have hTz:Tri wz w.heap.size (.bool g) (.slice az nz cz) (.slice bz mz dz):=by rw [← hwz]; exact Tri.made _ _ _ _ _
 obtain ⟨wo,hwo⟩:∃ q,wz.alloc (.cells #[.bool false,.slice none 0 0,.slice none 0 0] 25) = q:=⟨_,rfl⟩
 have hbo:Below wz.heap.size wz wo:=by rw [← hwo]; exact bAl
 have hO:=Out.made wz
 rw [hwo] at hO
 have hbw:=hbz.trans (hbo.mono hbz.size)
 have KA:=rmayAll_any a n c ps wo (h.below hbw) hn (hT.below hbw)
 rw [hm] at KA
 have HK:=Hd KA
 have H:=Hd h
 have HL:=Hd h.len
 have HM:=Hd hm
 have HF:=Hd hFF
 have HT:=Hd hT
 have HS0:=Hd (show FdX w wo w.heap.size wz.heap.size B ⟨g,az,nz,cz,x,bz,mz,dz,y⟩ from ⟨hbw,hO,hTz.keep hbo,hx.below hbw,hy.below hbw,ox,oy,hmz,na,nb,fun p hp hx_ e => by have:=sl_old hx p hp hx_; have:=hbz.size; omega,fun p hp hx_ e => by have:=sl_old hy p hp hx_; have:=hbz.size; omega,Nat.le_refl _,hbz.size,Nat.ne_of_lt hTz.lt,hB⟩)
 clear KA h hm hFF hO hbo hbz hTz hbw hx hy ox oy hmz na nb hB hT
 unfold ratV
 go_enter Tryz.func126,Tryz.ntmps126
 go_wp2_with fail
 refine (Uh HK).mono ?_
 rintro _ w1 ⟨rfl,hb1⟩
 have hS0:=Uh HS0
 have HS:=Hd (show FdX w w1 w.heap.size wz.heap.size B ⟨g,az,nz,cz,x,bz,mz,dz,y⟩ from ⟨hS0.bel.trans (hb1.mono hS0.bel.size),hS0.out.keep hb1,hS0.tx.keep hb1,hS0.num.below hb1,hS0.den.below hb1,hS0.ox,hS0.oy,hS0.may,hS0.na,hS0.nb,hS0.pa,hS0.pb,hS0.rz,hS0.ro,hS0.ne,hS0.hB⟩)
 clear HK hb1 HS0 hS0
 go_wp2_with fail
 go_loopw [16,8,9] (fun iv _ _ wr => ∃ (i:Nat) (z:Nq),i ≤ n ∧ iv = .int .i64 (i:Nat) ∧ FdX w wr w.heap.size wz.heap.size B z ∧ Hid (fdQ MulF (ps.drop i) (z.g,z.x,z.y) = ((SG,LN,LD),ER))) (fun iv _ _ _ => n - (intOf iv).toNat)
 case atStart => exact ⟨0,⟨g,az,nz,cz,x,bz,mz,dz,y⟩,Nat.zero_le _,rfl,Uh HS,Uh HF⟩
 case round =>
  clear HS HF hwz hwo
  obtain ⟨i,z,hi,rfl,hS,HD⟩:=hrel
  by_cases hlt:i < n
  ·have hlt':(i:Int) < (n:Int):=by omega
   obtain ⟨b,off,p,rfl,hp,⟨c0,c1,c2⟩,⟨hs1,hs2⟩,o1,o2⟩:=((Uh H).below hS.bel).at' hlt
   have e0:=hS.tx.c0
   have e1:=hS.tx.c1
   have e2:=hS.tx.c2
   have hpm:=mayQ_get (Uh HM) hp
   have hTb:=(Uh HT).below hS.bel
   obtain ⟨⟨⟨gy,xy,yy⟩,ey⟩,hY⟩:∃ r,MulF z.g z.x z.y p.g p.x p.y = r:=⟨_,rfl⟩
   have KP:=fun (W:World) (hb:Below wr.heap.size wr W) => rmultiply_F z.g p.g z.a z.b p.a p.b z.n z.c z.m z.d p.n p.c p.m p.d z.x z.y p.x p.y W (hS.num.below hb) (hS.den.below hb) (hs1.below hb) (hs2.below hb) hS.ox hS.oy o1 o2 hS.may hpm (hTb.below hb)
   unfold ratV at KP
   rw [hY] at KP
   have HKP:=Hd KP
   rw [drop_Q hp] at HD
   have HS:=Hd hS
   have HY:=Hd hY
   have HP:=Hd hpm
   clear KP hS hY hs1 hs2 o1 o2 hpm hp hTb
   go_wp2_with fail
   go_region_with (go_at_call 115; refine (Uh HKP _ (Below.refl _ _).drew).mono ?_; rintro _ wk ⟨v,rfl,ay,ny,cy,by_,my,dy,rfl,sx,sy,nx,nn,hb⟩; (try dsimp only at sx sy); unfold ratV; have hbk:Below wr.heap.size wr wk:=(Below.refl _ _).drew.trans hb; have hOx:=((Uh HS).tx.keep hbk).out; (obtain ⟨j0,u0⟩:=hOx.cells 0 (by decide)); (obtain ⟨j1,u1⟩:=hOx.cells 1 (by decide)); (obtain ⟨j2,u2_⟩:=hOx.cells 2 (by decide)); have v0:=hOx.fz 0 (by decide); have v1:=hOx.fz 1 (by decide); have v2:=hOx.fz 2 (by decide); have HN:=Hd (And.intro sx (And.intro sy (And.intro (show NewAt wr.heap.size ay from nx) (And.intro (show NewAt wr.heap.size by_ from nn) hbk)))); clear sx sy nx nn hb hbk hOx)
   all_goals
    have hS:=Uh HS
    obtain ⟨sx,sy,nx,nn,hbk⟩:=Uh HN
    have hne:=hS.ne
    have hne2:=hne.symm
    have hl:=mulF_lists (g1:=z.g) (x1:=z.x) (y1:=z.y) (g2:=p.g) (x2:=p.x) (y2:=p.y)
    rw [Uh HY] at hl
    by_cases hz:ey = 0
    ·have hD2:=(fdQ_go (l:=ps.drop (i + 1)) (z:=(z.g,z.x,z.y)) (Uh HY) hz).symm.trans (Uh HD)
     obtain ⟨g_,N_,D_,eq_,mm_,_⟩:=mulF_ok hS.may (Uh HP) (by rw [Uh HY]; exact hz)
     rw [Uh HY] at eq_
     have hmy:MayR gy xy yy = true:=by cases eq_; exact mm_
     have HX:=Hd (And.intro (hS.next hbk sx sy nx nn hl.1 hl.2 hmy) hD2)
     have hz2:(ey != 0) = false:=by simpa using hz
     clear hS sx sy nx nn hbk hl eq_ mm_ hmy hD2 hz HD HP HY HKP HN
     go_wp2_with fail
     exact ⟨⟨i + 1,⟨gy,ay,ny,cy,xy,by_,my,dy,yy⟩,by omega,by go_num,(Uh HX).1,(Uh HX).2⟩,by simp [intOf]; omega⟩
    ·obtain ⟨rfl,rfl,rfl⟩:=mulF_err (Uh HY) hz
     have c4:=(three_set wk w.heap.size (.bool false) (.slice ay ny cy) (.slice by_ my dy) ((hS.tx.keep hbk).out).cells).2.2.2
     have hOo:=(hS.out.keep hbk).chgQ c4 (fun e => hne2 e)
     have hBn:=(hS.bel.trans (hbk.mono hS.bel.size))
     have hBm:=hBn.trans (c4.below hBn.size (fun k hk e => by have:=hS.rz; omega))
     have hD2:=(fdQ_no (l:=ps.drop (i + 1)) (z:=(z.g,z.x,z.y)) (Uh HY) hz).symm.trans (Uh HD)
     simp only [Prod.mk.injEq] at hD2
     obtain ⟨⟨rfl,rfl,rfl⟩,rfl⟩:=hD2
     have HX:=Hd (And.intro (ret_F (w:=w) (B:=B) (gy:=false) hOo (sl_nil _) (sl_nil _) (newAt_nil _) (newAt_nil _) (fun p hp => by cases hp) (fun p hp => by cases hp) hBm hS.ro ey) (three_set _ wz.heap.size (.bool false) (.slice none 0 0) (.slice none 0 0) hOo.cells))
     obtain ⟨j3,u3_⟩:=hOo.cells 0 (by decide)
     obtain ⟨j4,u4_⟩:=hOo.cells 1 (by decide)
     obtain ⟨j5,u5_⟩:=hOo.cells 2 (by decide)
     have v3:=hOo.fz 0 (by decide)
     have v4:=hOo.fz 1 (by decide)
     have v5:=hOo.fz 2 (by decide)
     have hz2:(ey != 0) = true:=by simpa using hz
     clear hS sx sy nx nn hbk hl hz HD HP HY HKP HN c4 hOo hBn hBm
     go_wp2_with fail
     try go_region
     all_goals
      try go_wp2_with fail
      obtain ⟨hR,t0_,t1_,t2_,cc⟩:=Uh HX
      generalize (((((wk.setCell ⟨w.heap.size,0,none⟩ (.bool false)).setCell ⟨w.heap.size,1,none⟩ (.slice ay ny cy)).setCell ⟨w.heap.size,2,none⟩ (.slice by_ my dy)).setCell ⟨wz.heap.size,0,none⟩ (.bool false)).setCell ⟨wz.heap.size,1,none⟩ (.slice none 0 0)).setCell ⟨wz.heap.size,2,none⟩ (.slice none 0 0) = wq at *
      refine bodyPost_ret (by simp [results,Tryz.results126,go_sem,t0_,t1_,t2_]; try rfl) rfl ?_
      first | exact hR | exact hR.drewQ
  ·obtain rfl:i = n:=by omega
   have hlt':¬ (i:Int) < (i:Int):=by omega
   have hd:ps.drop i = []:=List.drop_eq_nil_of_le (by rw [Uh HL]; exact Nat.le_refl _)
   rw [hd] at HD
   have hD2:((z.g,z.x,z.y),(0:Int)) = ((SG,LN,LD),ER):=Uh HD
   simp only [Prod.mk.injEq] at hD2
   obtain ⟨⟨rfl,rfl,rfl⟩,rfl⟩:=hD2
   have e0:=hS.tx.c0
   have e1:=hS.tx.c1
   have e2:=hS.tx.c2
   have hOo:=hS.out
   obtain ⟨j0,u0⟩:=hOo.cells 0 (by decide)
   obtain ⟨j1,u1⟩:=hOo.cells 1 (by decide)
   obtain ⟨j2,u2_⟩:=hOo.cells 2 (by decide)
   have v0:=hOo.fz 0 (by decide)
   have v1:=hOo.fz 1 (by decide)
   have v2:=hOo.fz 2 (by decide)
   have hr1:=hS.ne
   have hr2:=hr1.symm
   have HX:=Hd (And.intro (ret_F (w:=w) (B:=B) (gy:=z.g) hOo hS.num hS.den hS.na hS.nb hS.pa hS.pb hS.bel hS.ro 0) (three_set wr wz.heap.size (.bool z.g) (.slice z.a z.n z.c) (.slice z.b z.m z.d) hOo.cells))
   clear hS hOo HD hd
   go_wp2_with fail
   try go_region
   all_goals
    try go_wp2_with fail
    obtain ⟨hR,t0_,t1_,t2_,cc⟩:=Uh HX
    generalize ((wr.setCell ⟨wz.heap.size,0,none⟩ (.bool z.g)).setCell ⟨wz.heap.size,1,none⟩ (.slice z.a z.n z.c)).setCell ⟨wz.heap.size,2,none⟩ (.slice z.b z.m z.d) = wq at *
    refine bodyPost_ret (by simp [results,Tryz.results126,go_sem,t0_,t1_,t2_]; try rfl) rfl ?_
    first | exact hR | exact hR.drewQ
set_option maxRecDepth 100000 in
set_option maxHeartbeats 32000000 in
theorem rDot_yes (a:Option Addr) (n c:Nat) (ps:List Nq) (a':Option Addr) (c':Nat) (qs:List Nq) (w:World) (h:SlQ w a n c ps) (h':SlQ w a' n c' qs) (hn:n ≤ 140737488355328) (hT0:Tab64 w) (hm:mayQ ps = true) (hm':mayQ qs = true) :
  Calls Tryz.prog 85 #[.slice a n c,.slice a' n c'] w fun e w' => ResF w w' (dtQ ps qs (false,[],[1])) e:=by
 obtain ⟨⟨⟨SG,LN,LD⟩,ER⟩,hFF⟩:∃ r,dtQ ps qs (false,[],[1]) = r:=⟨_,rfl⟩
 rw [hFF]
 unfold ResF
 dsimp only
 obtain ⟨wo,hwo⟩:∃ x,w.alloc (.cells #[.bool false,.slice none 0 0,.slice none 0 0] 25) = x:=⟨_,rfl⟩
 have hbo:Below w.heap.size w wo:=by rw [← hwo]; exact bAl
 have hO:=Out.made w
 rw [hwo] at hO
 have KA:=rmayAll_any a n c ps wo (h.below hbo) hn (hT0.below hbo)
 have KB:=fun (W:World) (hb:Below wo.heap.size wo W) => rmayAll_any a' n c' qs W ((h'.below hbo).below hb) hn ((hT0.below hbo).below hb)
 rw [hm] at KA
 rw [hm'] at KB
 have HK:=Hd KA
 have HKB:=Hd KB
 have H:=Hd h
 have H':=Hd h'
 have HL:=Hd h.len
 have HM:=Hd hm
 have HM':=Hd hm'
 have HF:=Hd hFF
 have HO:=Hd (And.intro hO hbo)
 have HTT:=Hd hT0
 clear KA KB h h' hm hm' hFF hO hbo hT0
 go_enter Tryz.func85,Tryz.ntmps85
 go_wp2_with fail
 refine (Uh HK).mono ?_
 rintro _ wa ⟨rfl,hba⟩
 have HBA:=Hd hba
 clear HK hba
 go_wp2_with fail
 refine (Uh HKB wa (Uh HBA)).mono ?_
 rintro _ w1 ⟨rfl,hb1⟩
 have hb01:=(Uh HBA).trans (hb1.mono (Uh HBA).size)
 have HB1:=Hd ((Uh HO).2.trans (hb01.mono (Uh HO).2.size))
 have HO1:=Hd ((Uh HO).1.keep hb01)
 clear HKB HO hb1 HBA hb01
 go_wp2_with fail
 have KZ:=ratWhole_any false none 0 0 w1
 refine KZ.mono ?_
 clear KZ
 rintro _ w2 ⟨bz,mz,dz,rfl,sy,ny,hb⟩
 have sx:=sl_nil w2
 have nx:=newAt_nil w1.heap.size
 unfold ratV
 have hd0:(false && decide (0 < 0)) = false:=rfl
 obtain ⟨w3,hw3⟩:∃ x,w2.alloc (.cells #[.bool false,.slice none 0 0,.slice bz mz dz] 25) = x:=⟨_,rfl⟩
 have h23:Below w2.heap.size w2 w3:=by rw [← hw3]; exact bAl
 have hT:Tri w3 w2.heap.size (.bool false) (.slice none 0 0) (.slice bz mz dz):=by rw [← hw3]; exact Tri.made _ _ _ _ _
 have hRo:=(Uh HO1).lt
 have HS:=Hd (show SmX w w3 w.heap.size w2.heap.size ⟨false,none,0,0,[],bz,mz,dz,[1]⟩ from
  ⟨((Uh HB1).trans (hb.mono (Uh HB1).size)).trans (h23.mono ((Uh HB1).trans (hb.mono (Uh HB1).size)).size),((Uh HO1).keep hb).keep h23,hT,sx.below h23,sy.below h23,(by intro x hx; simp at hx),ok_one (by decide),zero_may,(newAt_nil _),(fun p hp => by have:=ny p hp; omega),Nat.le_refl _,(by have:=hb.size; omega)⟩)
 clear sx sy nx ny hb h23 hT hRo HO1 HB1
 go_wp2_with fail
 go_loopw [28,7,8,9] (fun iv _ _ _ wr => ∃ (i:Nat) (z:Nq),i ≤ n ∧ iv = .int .i64 (i:Nat) ∧ SmX w wr w.heap.size w2.heap.size z ∧ Hid (dtQ (ps.drop i) (qs.drop i) (z.g,z.x,z.y) = ((SG,LN,LD),ER))) (fun iv _ _ _ _ => n - (intOf iv).toNat)
 case atStart => exact ⟨0,⟨false,none,0,0,[],bz,mz,dz,[1]⟩,Nat.zero_le _,rfl,Uh HS,Uh HF⟩
 case round =>
  clear HS HF hw3
  obtain ⟨i,z,hi,rfl,hS,HD⟩:=hrel
  by_cases hlt:i < n
  ·have hlt':(i:Int) < (n:Int):=by omega
   obtain ⟨b,off,p,rfl,hp,⟨c0,c1,c2⟩,⟨hs1,hs2⟩,o1,o2⟩:=((Uh H).below hS.bel).at' hlt
   obtain ⟨b2,off2,q,rfl,hq,⟨d0,d1,d2⟩,⟨ht1,ht2⟩,o3,o4⟩:=((Uh H').below hS.bel).at' hlt
   have hpm:=mayQ_get (Uh HM) hp
   have hqm:=mayQ_get (Uh HM') hq
   obtain ⟨⟨⟨gy,xy,yy⟩,ey⟩,hY⟩:∃ r,MulF p.g p.x p.y q.g q.x q.y = r:=⟨_,rfl⟩
   have KP:=fun (W:World) (hb:Below wr.heap.size wr W) => rmultiply_F p.g q.g p.a p.b q.a q.b p.n p.c p.m p.d q.n q.c q.m q.d p.x p.y q.x q.y W (hs1.below hb) (hs2.below hb) (ht1.below hb) (ht2.below hb) o1 o2 o3 o4 hpm hqm (((Uh HTT).below hS.bel).below hb)
   unfold ratV at KP
   rw [hY] at KP
   have HKP:=Hd KP
   rw [drop_Q hp,drop_Q hq] at HD
   have HS:=Hd hS
   have HY:=Hd hY
   have HP:=Hd (And.intro hpm hqm)
   clear KP hS hY hs1 hs2 ht1 ht2 o1 o2 o3 o4 hpm hqm hp hq
   have ha_0:=(ck ((Below.refl wr.heap.size wr).drew.alloc (Nat.le_refl _) (.cells #[.bool false,.slice none 0 0,.slice none 0 0] 25)) c0)
   have ha_1:=(ck ((Below.refl wr.heap.size wr).drew.alloc (Nat.le_refl _) (.cells #[.bool false,.slice none 0 0,.slice none 0 0] 25)) c1)
   have ha_2:=(ck ((Below.refl wr.heap.size wr).drew.alloc (Nat.le_refl _) (.cells #[.bool false,.slice none 0 0,.slice none 0 0] 25)) c2)
   have ha_3:=(ck ((Below.refl wr.heap.size wr).drew.alloc (Nat.le_refl _) (.cells #[.bool false,.slice none 0 0,.slice none 0 0] 25)) d0)
   have ha_4:=(ck ((Below.refl wr.heap.size wr).drew.alloc (Nat.le_refl _) (.cells #[.bool false,.slice none 0 0,.slice none 0 0] 25)) d1)
   have ha_5:=(ck ((Below.refl wr.heap.size wr).drew.alloc (Nat.le_refl _) (.cells #[.bool false,.slice none 0 0,.slice none 0 0] 25)) d2)
   have h_0:=(ck (Below.refl wr.heap.size wr).drew c0)
   have h_1:=(ck (Below.refl wr.heap.size wr).drew c1)
   have h_2:=(ck (Below.refl wr.heap.size wr).drew c2)
   have h_3:=(ck (Below.refl wr.heap.size wr).drew d0)
   have h_4:=(ck (Below.refl wr.heap.size wr).drew d1)
   have h_5:=(ck (Below.refl wr.heap.size wr).drew d2)
   go_wp2_with fail
   go_region_held3 (fun w' => w'.cell? ⟨b,off + i * 3,none⟩ = some (.bool p.g) ∧ w'.cell? ⟨b,off + i * 3 + 1,none⟩ = some (.slice p.a p.n p.c) ∧ w'.cell? ⟨b,off + i * 3 + 2,none⟩ = some (.slice p.b p.m p.d) ∧ w'.cell? ⟨b2,off2 + i * 3,none⟩ = some (.bool q.g) ∧ w'.cell? ⟨b2,off2 + i * 3 + 1,none⟩ = some (.slice q.a q.n q.c) ∧ w'.cell? ⟨b2,off2 + i * 3 + 2,none⟩ = some (.slice q.b q.m q.d)) (first | (with_reducible exact ⟨k_0,k_1,k_2,k_3,k_4,k_5⟩) | (with_reducible exact ⟨ka_0,ka_1,ka_2,ka_3,ka_4,ka_5⟩) | (with_reducible exact ⟨kf_0,kf_1,kf_2,kf_3,kf_4,kf_5⟩) | (with_reducible exact ⟨kn_0,kn_1,kn_2,kn_3,kn_4,kn_5⟩) | (exact ⟨h_0,h_1,h_2,h_3,h_4,h_5⟩) | (exact ⟨ha_0,ha_1,ha_2,ha_3,ha_4,ha_5⟩))
    (first
     | (go_at_call 115; (first
       | ((fail_if_success (with_reducible refine (show Calls _ _ _ (World.alloc _ _) _ from ?_))); refine (Uh HKP _ (Below.refl _ _).drew).mono ?_; rintro _ wk ⟨v,rfl,ay,ny,cy,by_,my,dy,rfl,sx,sy,nx,nn,hb⟩; (try dsimp only at sx sy); unfold ratV; have hbk:Below wr.heap.size wr wk:=(Below.refl _ _).drew.trans hb; have k_0:=(ck hbk c0); have k_1:=(ck hbk c1); have k_2:=(ck hbk c2); have k_3:=(ck hbk d0); have k_4:=(ck hbk d1); have k_5:=(ck hbk d2); have ka_0:=(ck ((Below.refl wk.heap.size wk).alloc (Nat.le_refl _) (.cells #[.bool false,.slice none 0 0,.slice none 0 0] 25)) k_0); have ka_1:=(ck ((Below.refl wk.heap.size wk).alloc (Nat.le_refl _) (.cells #[.bool false,.slice none 0 0,.slice none 0 0] 25)) k_1); have ka_2:=(ck ((Below.refl wk.heap.size wk).alloc (Nat.le_refl _) (.cells #[.bool false,.slice none 0 0,.slice none 0 0] 25)) k_2); have ka_3:=(ck ((Below.refl wk.heap.size wk).alloc (Nat.le_refl _) (.cells #[.bool false,.slice none 0 0,.slice none 0 0] 25)) k_3); have ka_4:=(ck ((Below.refl wk.heap.size wk).alloc (Nat.le_refl _) (.cells #[.bool false,.slice none 0 0,.slice none 0 0] 25)) k_4); have ka_5:=(ck ((Below.refl wk.heap.size wk).alloc (Nat.le_refl _) (.cells #[.bool false,.slice none 0 0,.slice none 0 0] 25)) k_5); have kf_0:=(ck ((Below.refl wk.heap.size wk).alloc (Nat.le_refl _) (.cells #[.bool gy,.slice ay ny cy,.slice by_ my dy] 25)) k_0); have kf_1:=(ck ((Below.refl wk.heap.size wk).alloc (Nat.le_refl _) (.cells #[.bool gy,.slice ay ny cy,.slice by_ my dy] 25)) k_1); have kf_2:=(ck ((Below.refl wk.heap.size wk).alloc (Nat.le_refl _) (.cells #[.bool gy,.slice ay ny cy,.slice by_ my dy] 25)) k_2); have kf_3:=(ck ((Below.refl wk.heap.size wk).alloc (Nat.le_refl _) (.cells #[.bool gy,.slice ay ny cy,.slice by_ my dy] 25)) k_3); have kf_4:=(ck ((Below.refl wk.heap.size wk).alloc (Nat.le_refl _) (.cells #[.bool gy,.slice ay ny cy,.slice by_ my dy] 25)) k_4); have kf_5:=(ck ((Below.refl wk.heap.size wk).alloc (Nat.le_refl _) (.cells #[.bool gy,.slice ay ny cy,.slice by_ my dy] 25)) k_5); have HN:=Hd (ldY_new (wr:=wr) (gy:=gy) sx sy nx nn hbk); have HKS:=Hd (show wr.heap.size ≤ wk.heap.size from hbk.size); clear sx sy nx nn hb hbk)
       | (refine (Uh HKP _ ((Below.refl _ _).drew.alloc (Nat.le_refl _) _)).mono ?_; rintro _ wk ⟨v,rfl,ay,ny,cy,by_,my,dy,rfl,sx,sy,nx,nn,hb⟩; (try dsimp only at sx sy); unfold ratV; have hO:Out wk wr.heap.size:=(Out.made wr.drew).keep hb; have hbk:Below wr.heap.size wr wk:=((Below.refl wr.heap.size wr).drew.alloc (Nat.le_refl _) _).trans (hb.mono (by simp)); have k_0:=(ck hbk c0); have k_1:=(ck hbk c1); have k_2:=(ck hbk c2); have k_3:=(ck hbk d0); have k_4:=(ck hbk d1); have k_5:=(ck hbk d2); have c4:=(three_set wk wr.heap.size (.bool gy) (.slice ay ny cy) (.slice by_ my dy) hO.cells).2.2.2; have kn_0:=c4.cell (Nat.ne_of_lt (World.block_lt_of_cell? _ _ c0)) k_0; have kn_1:=c4.cell (Nat.ne_of_lt (World.block_lt_of_cell? _ _ c1)) k_1; have kn_2:=c4.cell (Nat.ne_of_lt (World.block_lt_of_cell? _ _ c2)) k_2; have kn_3:=c4.cell (Nat.ne_of_lt (World.block_lt_of_cell? _ _ d0)) k_3; have kn_4:=c4.cell (Nat.ne_of_lt (World.block_lt_of_cell? _ _ d1)) k_4; have kn_5:=c4.cell (Nat.ne_of_lt (World.block_lt_of_cell? _ _ d2)) k_5; clear c4; (obtain ⟨i0,q0⟩:=hO.cells 0 (by decide)); (obtain ⟨i1,q1⟩:=hO.cells 1 (by decide)); (obtain ⟨i2,q2⟩:=hO.cells 2 (by decide)); have f0:=hO.fz 0 (by decide); have f1:=hO.fz 1 (by decide); have f2:=hO.fz 2 (by decide); have HN:=Hd (ldY_old (wr:=wr) (gy:=gy) sx sy (fun p hp => by have:=nx p hp; simp at this; omega) (fun p hp => by have:=nn p hp; simp at this; omega) hbk hO); clear sx sy nx nn hb hbk hO))))
   all_goals (first
    | (clear q0 q1 q2 f0 f1 f2; generalize ((wk.setCell ⟨wr.heap.size,0,none⟩ (.bool gy)).setCell ⟨wr.heap.size,1,none⟩ (.slice ay ny cy)).setCell ⟨wr.heap.size,2,none⟩ (.slice by_ my dy) = wy at *; generalize hRy:wr.heap.size = Ry at HN ⊢; have HRy:=Hd (show wr.heap.size ≤ Ry from hRy ▸ Nat.le_refl _))
    | (generalize wk.alloc (.cells #[.bool gy,.slice ay ny cy,.slice by_ my dy] 25) = wy at *; have HRz:=Hd (Uh HKS); generalize hRy:wk.heap.size = Ry at HN ⊢; have HRy:=Hd (show wr.heap.size ≤ Ry from hRy ▸ Uh HRz)))
   all_goals
    have hN:=Uh HN
    have hS:=Uh HS
    have t0:=hN.tri.c0
    have t1:=hN.tri.c1
    have t2:=hN.tri.c2
    have hlo:=hS.out.lt
    have hlx:=hS.tx.lt
    have hrx:=hS.rx
    have hsz:=hN.bel.size
    by_cases hz:ey = 0
    ·have hSy:=hS.keepQ hN.bel
     have hl:=mulF_lists (g1:=p.g) (x1:=p.x) (y1:=p.y) (g2:=q.g) (x2:=q.x) (y2:=q.y)
     obtain ⟨g_,N_,D_,eq_,mm_,_⟩:=mulF_ok (Uh HP).1 (Uh HP).2 (by rw [Uh HY]; exact hz)
     rw [Uh HY] at hl eq_
     have hmy:MayR gy xy yy = true:=by cases eq_; exact mm_
     obtain ⟨⟨⟨gs,xs,ys⟩,es⟩,hX⟩:∃ r,AddF z.g z.x z.y gy xy yy = r:=⟨_,rfl⟩
     have KQ:=radd_F z.g gy z.a z.b ay by_ z.n z.c z.m z.d ny cy my dy z.x z.y xy yy wy hSy.num hSy.den hN.num hN.den hSy.ox hSy.oy hl.1 hl.2 hSy.may hmy ((Uh HTT).below hSy.bel)
     unfold ratV at KQ
     rw [hX] at KQ
     have HKQ:=Hd KQ
     have HSy:=Hd hSy
     have HX1:=Hd hX
     have HMy:=Hd hmy
     have s0:=hSy.tx.c0
     have s1:=hSy.tx.c1
     have s2:=hSy.tx.c2
     have HZ:=Hd hz
     have hz2:(ey == 0) = true:=by simpa using hz
     clear hN hS hSy hl eq_ mm_ hmy hX KQ hz HKP HN HS hlo hlx hrx hsz
     (try clear k_0 k_1 k_2 k_3 k_4 k_5 ka_0 ka_1 ka_2 ka_3 ka_4 ka_5 kf_0 kf_1 kf_2 kf_3 kf_4 kf_5 kn_0 kn_1 kn_2 kn_3 kn_4 kn_5 h_0 h_1 h_2 h_3 h_4 h_5 ha_0 ha_1 ha_2 ha_3 ha_4 ha_5)
     go_wp2_with fail
     refine (Uh HKQ).mono ?_
     rintro _ wq ⟨v,rfl,as_,ns,cs,bs,ms,ds,rfl,ux,uy,un,um,hbq⟩
     (try dsimp only at ux uy)
     unfold ratV
     have hSy:=Uh HSy
     have hOx:=(hSy.tx.keep hbq).out
     obtain ⟨hT4,hO4,hx4,hy4,hb4,na4,nb4⟩:=hSy.put (gy:=gs) hbq ux uy un um
     have hl2:=addF_lists (g1:=z.g) (x1:=z.x) (y1:=z.y) (g2:=gy) (x2:=xy) (y2:=yy)
     rw [Uh HX1] at hl2
     obtain ⟨j0,u0⟩:=hOx.cells 0 (by decide)
     obtain ⟨j1,u1⟩:=hOx.cells 1 (by decide)
     obtain ⟨j2,u2_⟩:=hOx.cells 2 (by decide)
     have v0:=hOx.fz 0 (by decide)
     have v1:=hOx.fz 1 (by decide)
     have v2:=hOx.fz 2 (by decide)
     have hrx:=hSy.rx
     have hr1:w2.heap.size ≠ w.heap.size:=by omega
     have hr2:=hr1.symm
     by_cases hz3:es = 0
     ·have hD2:=(dtQ_go (l:=ps.drop (i + 1)) (k:=qs.drop (i + 1)) (z:=(z.g,z.x,z.y)) (Uh HY) (Uh HZ) (Uh HX1) hz3).symm.trans (Uh HD)
      obtain ⟨g_,N_,D_,eq_,mm_,_⟩:=addF_ok hSy.may (Uh HMy) (by rw [Uh HX1]; exact hz3)
      rw [Uh HX1] at eq_
      have hms:MayR gs xs ys = true:=by cases eq_; exact mm_
      have HX:=Hd (And.intro (show SmX w (((wq.setCell ⟨w2.heap.size,0,none⟩ (.bool gs)).setCell ⟨w2.heap.size,1,none⟩ (.slice as_ ns cs)).setCell ⟨w2.heap.size,2,none⟩ (.slice bs ms ds)) w.heap.size w2.heap.size ⟨gs,as_,ns,cs,xs,bs,ms,ds,ys⟩ from ⟨hb4,hO4,hT4,hx4,hy4,hl2.1,hl2.2,hms,na4,nb4,hSy.ro,hSy.rx⟩) hD2)
      have hz4:(es != 0) = false:=by simpa using hz3
      clear hSy hOx hT4 hO4 hx4 hy4 hb4 na4 nb4 hl2 hD2 eq_ mm_ hms hz3 ux uy un um hbq HKQ HSy HD HY HZ HX1 HMy HP hrx
      go_wp2_with fail
      exact ⟨⟨i + 1,⟨gs,as_,ns,cs,xs,bs,ms,ds,ys⟩,by omega,by go_num,(Uh HX).1,(Uh HX).2⟩,by simp [intOf]; omega⟩
     ·have hD2:=(dtQ_no2 (l:=ps.drop (i + 1)) (k:=qs.drop (i + 1)) (z:=(z.g,z.x,z.y)) (Uh HY) (Uh HZ) (Uh HX1) hz3).symm.trans (Uh HD)
      simp only [Prod.mk.injEq] at hD2
      obtain ⟨⟨rfl,rfl,rfl⟩,rfl⟩:=hD2
      obtain ⟨rfl,rfl,rfl⟩:=addF_err (Uh HX1) hz3
      have HX:=Hd (And.intro (ret_Q (w:=w) (gy:=false) hO4 (sl_nil _) (sl_nil _) (newAt_nil _) (newAt_nil _) hb4 hSy.ro) (three_set _ w.heap.size (.bool false) (.slice none 0 0) (.slice none 0 0) hO4.cells))
      have x0:=hT4.c0
      have x1:=hT4.c1
      have x2:=hT4.c2
      obtain ⟨j3,u3_⟩:=hO4.cells 0 (by decide)
      obtain ⟨j4,u4_⟩:=hO4.cells 1 (by decide)
      obtain ⟨j5,u5_⟩:=hO4.cells 2 (by decide)
      have v3:=hO4.fz 0 (by decide)
      have v4:=hO4.fz 1 (by decide)
      have v5:=hO4.fz 2 (by decide)
      have hz4:(es != 0) = true:=by simpa using hz3
      clear hSy hOx hT4 hO4 hx4 hy4 hb4 na4 nb4 hl2 hz3 ux uy un um hbq HKQ HSy HD HY HZ HX1 HMy HP hrx
      go_wp2_with fail
      try go_region
      all_goals
       try go_wp2_with fail
       obtain ⟨hR,t0_,t1_,t2_,cc⟩:=Uh HX
       generalize (((((wq.setCell ⟨w2.heap.size,0,none⟩ (.bool false)).setCell ⟨w2.heap.size,1,none⟩ (.slice as_ ns cs)).setCell ⟨w2.heap.size,2,none⟩ (.slice bs ms ds)).setCell ⟨w.heap.size,0,none⟩ (.bool false)).setCell ⟨w.heap.size,1,none⟩ (.slice none 0 0)).setCell ⟨w.heap.size,2,none⟩ (.slice none 0 0) = wv at *
       refine bodyPost_ret (by simp [results,Tryz.results85,go_sem,t0_,t1_,t2_]; try rfl) rfl ?_
       first | exact ⟨_,rfl,hR⟩ | exact ⟨_,rfl,hR.drewQ⟩
    ·have hOo:=hS.out.keep hN.bel
     obtain ⟨j0,u0⟩:=hOo.cells 0 (by decide)
     obtain ⟨j1,u1⟩:=hOo.cells 1 (by decide)
     obtain ⟨j2,u2_⟩:=hOo.cells 2 (by decide)
     have v0:=hOo.fz 0 (by decide)
     have v1:=hOo.fz 1 (by decide)
     have v2:=hOo.fz 2 (by decide)
     have hD2:=(dtQ_no1 (l:=ps.drop (i + 1)) (k:=qs.drop (i + 1)) (z:=(z.g,z.x,z.y)) (Uh HY) hz).symm.trans (Uh HD)
     simp only [Prod.mk.injEq] at hD2
     obtain ⟨⟨rfl,rfl,rfl⟩,rfl⟩:=hD2
     obtain ⟨rfl,rfl,rfl⟩:=mulF_err (Uh HY) hz
     have HX:=Hd (And.intro (ret_Q (w:=w) (gy:=false) hOo (sl_nil _) (sl_nil _) (newAt_nil _) (newAt_nil _) (hS.bel.trans (hN.bel.mono hS.bel.size)) hS.ro) (three_set wy w.heap.size (.bool false) (.slice none 0 0) (.slice none 0 0) hOo.cells))
     have hz2:(ey == 0) = false:=by simpa using hz
     have hz5:(ey != 0) = true:=by simpa using hz
     have hr1:Ry ≠ w.heap.size:=by have:=Uh HRy; omega
     have hr2:=hr1.symm
     clear hN hS hOo hz HD HP HY HKP
     (try clear k_0 k_1 k_2 k_3 k_4 k_5 ka_0 ka_1 ka_2 ka_3 ka_4 ka_5 kf_0 kf_1 kf_2 kf_3 kf_4 kf_5 kn_0 kn_1 kn_2 kn_3 kn_4 kn_5 h_0 h_1 h_2 h_3 h_4 h_5 ha_0 ha_1 ha_2 ha_3 ha_4 ha_5)
     go_wp2_with fail
     try go_region
     all_goals
      try go_wp2_with fail
      obtain ⟨hR,t0_,t1_,t2_,cc⟩:=Uh HX
      generalize ((wy.setCell ⟨w.heap.size,0,none⟩ (.bool false)).setCell ⟨w.heap.size,1,none⟩ (.slice none 0 0)).setCell ⟨w.heap.size,2,none⟩ (.slice none 0 0) = wq at *
      refine bodyPost_ret (by simp [results,Tryz.results85,go_sem,t0_,t1_,t2_]; try rfl) rfl ?_
      first | exact ⟨_,rfl,hR⟩ | exact ⟨_,rfl,hR.drewQ⟩
  ·obtain rfl:i = n:=by omega
   have hlt':¬ (i:Int) < (i:Int):=by omega
   have hd:ps.drop i = []:=List.drop_eq_nil_of_le (by rw [Uh HL]; exact Nat.le_refl _)
   rw [hd,dtQ_nil] at HD
   have hD2:((z.g,z.x,z.y),(0:Int)) = ((SG,LN,LD),ER):=Uh HD
   simp only [Prod.mk.injEq] at hD2
   obtain ⟨⟨rfl,rfl,rfl⟩,rfl⟩:=hD2
   have e0:=hS.tx.c0
   have e1:=hS.tx.c1
   have e2:=hS.tx.c2
   have hOo:=hS.out
   obtain ⟨j0,u0⟩:=hOo.cells 0 (by decide)
   obtain ⟨j1,u1⟩:=hOo.cells 1 (by decide)
   obtain ⟨j2,u2_⟩:=hOo.cells 2 (by decide)
   have v0:=hOo.fz 0 (by decide)
   have v1:=hOo.fz 1 (by decide)
   have v2:=hOo.fz 2 (by decide)
   have hrx:=hS.rx
   have hr1:w2.heap.size ≠ w.heap.size:=by omega
   have hr2:=hr1.symm
   have HX:=Hd (And.intro (ret_Q (w:=w) (gy:=z.g) hOo hS.num hS.den hS.na hS.nb hS.bel hS.ro) (three_set wr w.heap.size (.bool z.g) (.slice z.a z.n z.c) (.slice z.b z.m z.d) hOo.cells))
   clear hS hOo HD hd hrx
   go_wp2_with fail
   try go_region
   all_goals
    try go_wp2_with fail
    obtain ⟨hR,t0_,t1_,t2_,cc⟩:=Uh HX
    generalize ((wr.setCell ⟨w.heap.size,0,none⟩ (.bool z.g)).setCell ⟨w.heap.size,1,none⟩ (.slice z.a z.n z.c)).setCell ⟨w.heap.size,2,none⟩ (.slice z.b z.m z.d) = wq at *
    refine bodyPost_ret (by simp [results,Tryz.results85,go_sem,t0_,t1_,t2_]; try rfl) rfl ?_
    first | exact ⟨_,rfl,hR⟩ | exact ⟨_,rfl,hR.drewQ⟩
end Go.Proofs.YtmmeiebbnjjijaaGreatDoor
