/- Ryc -/
import Derived.Test.YtpbcnkcnjnefiaaGreatDoorRy9
import Derived.Test.YtpbcnkcnjnefiaaGreatDoorRz2
import Derived.Test.YtpbcnkcnjnefiaaGreatDoorWi2
namespace Go.Proofs.YtpbcnkcnjnefiaaGreatDoor
open Go.RowKit Go.Deep
set_option linter.unusedVariables false
theorem FdP.new {w w':World} {r:(Bool × List Nat × List Nat) × Int} {e:Ending} (h:FdP w w' w.heap.size r e):ResF w w' r e:=by
 obtain ⟨a,m,c,b,k,d,rfl,h1,h2,h3,h4,h5⟩:=h
 exact ⟨_,rfl,a,m,c,b,k,d,rfl,h1,h2,h3,h4,h5⟩
theorem may_swap {x y:List Nat} (h:MayR false x y = true) (hx:x ≠ []):MayR false y x = true:=by
 obtain ⟨h1,h2,h3,_,h5⟩:=MayR.parts h
 unfold MayR
 simp only [Bool.and_eq_true,Bool.not_eq_true',decide_eq_false_iff_not,decide_eq_true_eq]
 exact ⟨⟨⟨⟨h2,h1⟩,hx⟩,by simp⟩,by rw [Nat.gcd_comm]; exact h5⟩
set_option maxRecDepth 100000 in
set_option maxHeartbeats 16000000 in
theorem rfromTerms_ok (a:Option Addr) (n c:Nat) (p0:Nq) (r:List Nq) (w:World) (h:SlQ w a n c (p0 :: r)) (hm:mayQ (p0 :: r) = true) (ht:tmQ (p0 :: r) = true) (hT:Tab64 w) :
  Calls Tryz.prog 13 #[.slice a n c] w fun e w' => ResF w w' (FtF (p0 :: r)) e:=by
 obtain ⟨wo,hwo⟩:∃ x,w.alloc (.cells #[.bool false,.slice none 0 0,.slice none 0 0] 25) = x:=⟨_,rfl⟩
 have hbo:Below w.heap.size w wo:=by rw [← hwo]; exact bAl
 have hO:=Out.made w
 rw [hwo] at hO
 have hn1:n ≤ 1024 ∧ 0 < n:=by
  have h1:=(tmQ_get ht).1
  have h2:=h.len
  simp at h2
  omega
 obtain ⟨hn1,hn0⟩:=hn1
 have KA:=rmayAll_any a n c (p0 :: r) wo (h.below hbo) (by omega) (hT.below hbo)
 rw [hm] at KA
 have KT:=fun (W:World) (hb:Below wo.heap.size wo W) => rareTerms_any a n c (p0 :: r) W ((h.below hbo).below hb)
 rw [ht] at KT
 have HKA:=Hd KA
 have HKT:=Hd KT
 have H:=Hd h
 have HL:=Hd h.len
 have HM:=Hd hm
 have HTm:=Hd ht
 have HOk:=Hd (show ∀ p ∈ p0 :: r,Ok p.x from fun p hp => (h.each p hp).2.1)
 have HT:=Hd hT
 have HO:=Hd (And.intro hO hbo)
 have hRo:w.heap.size < wo.heap.size:=hO.lt
 clear KA KT h hm ht hT hO hbo
 go_enter Tryz.func13,Tryz.ntmps13
 go_wp2_with fail
 refine (Uh HKA).mono ?_
 rintro _ w1 ⟨rfl,b1⟩
 have HB1:=Hd b1
 clear b1 HKA
 go_wp2_with fail
 refine (Uh HKT _ (Uh HB1)).mono ?_
 rintro _ w2 ⟨rfl,b2⟩
 have HB2:=Hd ((Uh HB1).trans (b2.mono (Uh HB1).size))
 clear b2 HB1 HKT
 have KW:=ratWhole_any false none 0 0 w2
 unfold WhPost ratV at KW
 rw [show (false && decide (0 < 0)) = false from rfl] at KW
 have HKW:=Hd KW
 clear KW
 go_wp2_with fail
 refine (Uh HKW).mono ?_
 rintro _ w3 ⟨az,mz,cz,rfl,sz,nz,b3⟩
 obtain ⟨w4,hw4⟩:∃ x,w3.alloc (.cells #[.bool false,.slice none 0 0,.slice az mz cz] 25) = x:=⟨_,rfl⟩
 have b4:Below w3.heap.size w3 w4:=by rw [← hw4]; exact bAl
 have hTz:Tri w4 w3.heap.size (.bool false) (.slice none 0 0) (.slice az mz cz):=by rw [← hw4]; exact Tri.made _ _ _ _ _
 have hB3:=(Uh HB2).trans (b3.mono (Uh HB2).size)
 have hB4:=hB3.trans (b4.mono hB3.size)
 have hBw:=(Uh HO).2.trans (hB4.mono (Uh HO).2.size)
 have z3:=(Uh HO).2.size
 have z4:=(Uh HB2).size
 have z5:=b3.size
 obtain ⟨Rz,hRz⟩:∃ x,w3.heap.size = x:=⟨_,rfl⟩
 obtain ⟨Ro,hRo2⟩:∃ x,w.heap.size = x:=⟨_,rfl⟩
 have HX0:=Hd (show FtX w w4 Rz Ro (p0 :: r) n ⟨false,none,0,0,[],az,mz,cz,[1]⟩ from
  ⟨⟨hBw,by rw [← hRo2]; exact (Uh HO).1.keep hB4,by rw [← hRz]; exact hTz,sl_nil _,sz.below b4,Ok.nil,ok_unit,(show MayR false [] [1] = true by decide),newAt_nil _,fun x hx => Nat.le_trans (by omega) (nz x hx),fun p hp => by (cases hp),fun p hp _ e => by have:=nz p hp; omega,by omega,by omega,by omega,Nat.le_refl _⟩,rfl,by rw [List.drop_eq_nil_of_le (Nat.le_of_eq (Uh HL))]; rfl,by rw [List.drop_eq_nil_of_le (Nat.le_of_eq (Uh HL))]; rfl,by rw [List.drop_eq_nil_of_le (Nat.le_of_eq (Uh HL))]; rfl⟩)
 rw [hRo2] at hRo
 clear hTz hB3 hB4 hBw sz nz b3 b4 HB2 HO HKW
 go_wp2_with fail
 go_loopw [5,6] (fun iv _ wr => ∃ (k:Nat) (z:Nq),k ≤ n ∧ iv = .int .i64 ((k:Int) - 1) ∧ ((0 < k ∧ Hid (FtX w wr Rz Ro (p0 :: r) k z)) ∨ (k = 0 ∧ Hid (FdX w wr Rz Ro w.heap.size z) ∧ Hid (FtF (p0 :: r) = ((z.g,z.x,z.y),0))))) (fun iv _ _ => (intOf iv + 1).toNat)
 case atStart => exact ⟨n,_,Nat.le_refl _,rfl,.inl ⟨hn0,Uh HX0⟩⟩
 case round =>
  clear HX0
  obtain ⟨k,z,hk,rfl,hst⟩:=hrel
  rcases k with _ | _ | j
  ·have HD:Hid (FdX w wr Rz Ro w.heap.size z) ∧ Hid (FtF (p0 :: r) = ((z.g,z.x,z.y),0)):=by
    rcases hst with ⟨h1,_⟩ | ⟨_,h2⟩
    ·omega
    ·exact h2
   obtain ⟨HS,HFF⟩:=HD
   clear hst
   have hS:=Uh HS
   have e0:=hS.tx.c0
   have e1:=hS.tx.c1
   have e2:=hS.tx.c2
   have hOo:=hS.out
   obtain ⟨j0,u0⟩:=hOo.cells 0 (by decide)
   obtain ⟨j1,u1⟩:=hOo.cells 1 (by decide)
   obtain ⟨j2,u2_⟩:=hOo.cells 2 (by decide)
   have v0:=hOo.fz 0 (by decide)
   have v1:=hOo.fz 1 (by decide)
   have v2:=hOo.fz 2 (by decide)
   have hr1:=hS.ne
   have hr2:=hr1.symm
   have HXe:=Hd (And.intro (ret_F (w:=w) (B:=w.heap.size) (gy:=z.g) hOo hS.num hS.den hS.na hS.nb hS.pa hS.pb hS.bel hS.ro 0) (three_set wr Ro (.bool z.g) (.slice z.a z.n z.c) (.slice z.b z.m z.d) hOo.cells))
   have tI:¬ (0:Int) ≤ ((0:Nat):Int) - 1:=by omega
   clear hS hOo HS
   go_wp2_with fail
   try go_region
   all_goals
    try go_wp2_with fail
    obtain ⟨hR,t0_,t1_,t2_,cc⟩:=Uh HXe
    generalize ((wr.setCell ⟨Ro,0,none⟩ (.bool z.g)).setCell ⟨Ro,1,none⟩ (.slice z.a z.n z.c)).setCell ⟨Ro,2,none⟩ (.slice z.b z.m z.d) = wq at *
    refine bodyPost_ret (by simp [results,Tryz.results13,go_sem,t0_,t1_,t2_]; try rfl) rfl ?_
    rw [Uh HFF]
    first | exact hR.new | exact hR.drewQ.new
  ·have HX:Hid (FtX w wr Rz Ro (p0 :: r) (0 + 1) z):=by
    rcases hst with ⟨_,h1⟩ | ⟨h1,_⟩
    ·exact h1
    ·omega
   clear hst
   obtain ⟨i0,hi0⟩:∃ i0:Nat,i0 = 0:=⟨0,rfl⟩
   have tI:(((0 + 1:Nat):Int)) - 1 = ((i0:Nat):Int):=by omega
   rw [tI]
   have tP:¬ (0:Int) < ((i0:Nat):Int):=by omega
   have hlt:i0 < n:=by omega
   have hlt0:(0:Int) ≤ ((i0:Nat):Int):=by omega
   have hlt1:(((i0:Nat):Int)) < (n:Int):=by omega
   have hX:=Uh HX
   have hS:=hX.fd
   obtain ⟨b,off,p,rfl,hp,⟨c0,c1,c2⟩,⟨hs1,hs2⟩,o1,o2⟩:=((Uh H).below hS.bel).at' hlt
   have e0:=hS.tx.c0
   have e1:=hS.tx.c1
   have e2:=hS.tx.c2
   have hpm:=mayQ_get (Uh HM) hp
   have hTb:=(Uh HT).below hS.bel
   obtain ⟨⟨⟨gy,xy,yy⟩,ey⟩,hY⟩:∃ r,AddF p.g p.x p.y z.g z.x z.y = r:=⟨_,rfl⟩
   have KP:=fun (W:World) (hb:Below wr.heap.size wr W) => radd_F p.g z.g p.a p.b z.a z.b p.n p.c p.m p.d z.n z.c z.m z.d p.x p.y z.x z.y W (hs1.below hb) (hs2.below hb) (hS.num.below hb) (hS.den.below hb) o1 o2 hS.ox hS.oy hpm hS.may (hTb.below hb)
   unfold ratV at KP
   rw [hY] at KP
   have HKP:=Hd KP
   have hp0:p = p0:=by rw [hi0] at hp; simpa using hp.symm
   have hFF:FtF (p0 :: r) = ((gy,xy,yy),ey):=by
    rw [ftF_ok (Uh HM) (Uh HTm) (by have:=hX.b; simpa using this),← hY,hX.g,hX.x,hX.y,hp0]
    simp
   have HFF:=Hd hFF
   have HI:=Hd hi0
   clear hFF hp0 hi0
   have HS:=Hd hS
   have HY:=Hd hY
   have HP:=Hd hpm
   clear KP hS hX hY hs1 hs2 o1 o2 hpm hp hTb
   go_wp2_with fail
   go_region_with (go_at_call 42; refine (Uh HKP _ (Below.refl _ _).drew).mono ?_; rintro _ wk ⟨v,rfl,ay,ny,cy,by_,my,dy,rfl,sx,sy,nx,nn,hb⟩; (try dsimp only at sx sy); unfold ratV; have hbk:Below wr.heap.size wr wk:=(Below.refl _ _).drew.trans hb; have hOx:=((Uh HS).tx.keep hbk).out; (obtain ⟨j0,u0⟩:=hOx.cells 0 (by decide)); (obtain ⟨j1,u1⟩:=hOx.cells 1 (by decide)); (obtain ⟨j2,u2_⟩:=hOx.cells 2 (by decide)); have v0:=hOx.fz 0 (by decide); have v1:=hOx.fz 1 (by decide); have v2:=hOx.fz 2 (by decide); have HN:=Hd (And.intro sx (And.intro sy (And.intro (show NewAt wr.heap.size ay from nx) (And.intro (show NewAt wr.heap.size by_ from nn) hbk)))); clear sx sy nx nn hb hbk hOx)
   all_goals
    have hS:=Uh HS
    obtain ⟨sx,sy,nx,nn,hbk⟩:=Uh HN
    have hne:=hS.ne
    have hne2:=hne.symm
    have hzl:=hS.tx.lt
    have hl:=addF_lists (g1:=p.g) (x1:=p.x) (y1:=p.y) (g2:=z.g) (x2:=z.x) (y2:=z.y)
    rw [Uh HY] at hl
    by_cases hz:ey = 0
    ·obtain ⟨g_,N_,D_,eq_,mm_,_⟩:=addF_ok (Uh HP) hS.may (by rw [Uh HY]; exact hz)
     rw [Uh HY] at eq_
     have hmy:MayR gy xy yy = true:=by cases eq_; exact mm_
     have hnx:=hS.next hbk sx sy nx nn hl.1 hl.2 hmy
     have hz2:(ey != 0) = false:=by simpa using hz
     have HXn:=Hd (And.intro hnx (show FtF (p0 :: r) = ((gy,xy,yy),0) by rw [Uh HFF,hz]))
     clear hS sx sy nx nn hbk hl eq_ mm_ hmy hz HP HY HKP HN hnx HFF HX
     go_wp2_with fail
     exact ⟨⟨0,⟨gy,ay,ny,cy,xy,by_,my,dy,yy⟩,by omega,(by rw [Uh HI]),.inr ⟨rfl,(Uh HXn).1,(Uh HXn).2⟩⟩,by have:=Uh HI; simp [intOf]; try omega⟩
    ·obtain ⟨rfl,rfl,rfl⟩:=addF_err (Uh HY) hz
     have c4:=(three_set wk Rz (.bool false) (.slice ay ny cy) (.slice by_ my dy) ((hS.tx.keep hbk).out).cells).2.2.2
     have hOo:=(hS.out.keep hbk).chgQ c4 (fun e => hne2 e)
     have hBn:=(hS.bel.trans (hbk.mono hS.bel.size))
     have hBm:=hBn.trans (c4.below hBn.size (fun k hk e => by have:=hS.rz; omega))
     have hFe:FtF (p0 :: r) = ((false,[],[]),ey):=Uh HFF
     have HXe:=Hd (And.intro (ret_F (w:=w) (B:=w.heap.size) (gy:=false) hOo (sl_nil _) (sl_nil _) (newAt_nil _) (newAt_nil _) (fun p hp => by cases hp) (fun p hp => by cases hp) hBm hS.ro ey) (And.intro (three_set _ Ro (.bool false) (.slice none 0 0) (.slice none 0 0) hOo.cells) hFe))
     obtain ⟨j3,u3_⟩:=hOo.cells 0 (by decide)
     obtain ⟨j4,u4_⟩:=hOo.cells 1 (by decide)
     obtain ⟨j5,u5_⟩:=hOo.cells 2 (by decide)
     have v3:=hOo.fz 0 (by decide)
     have v4:=hOo.fz 1 (by decide)
     have v5:=hOo.fz 2 (by decide)
     have hz2:(ey != 0) = true:=by simpa using hz
     clear hS sx sy nx nn hbk hl hz HP HY HKP HN c4 hOo hBn hBm hFe HX HFF
     go_wp2_with fail
     try go_region
     all_goals
      try go_wp2_with fail
      obtain ⟨hR,⟨t0_,t1_,t2_,cc⟩,hFe⟩:=Uh HXe
      generalize (((((wk.setCell ⟨Rz,0,none⟩ (.bool false)).setCell ⟨Rz,1,none⟩ (.slice ay ny cy)).setCell ⟨Rz,2,none⟩ (.slice by_ my dy)).setCell ⟨Ro,0,none⟩ (.bool false)).setCell ⟨Ro,1,none⟩ (.slice none 0 0)).setCell ⟨Ro,2,none⟩ (.slice none 0 0) = wq at *
      refine bodyPost_ret (by simp [results,Tryz.results13,go_sem,t0_,t1_,t2_]; try rfl) rfl ?_
      rw [hFe]
      first | exact hR.new | exact hR.drewQ.new
  ·have HX:Hid (FtX w wr Rz Ro (p0 :: r) (j + 2) z):=by
    rcases hst with ⟨_,h1⟩ | ⟨h1,_⟩
    ·exact h1
    ·omega
   clear hst
   have tI:(((j + 2:Nat):Int)) - 1 = ((j + 1:Nat):Int):=by omega
   rw [tI]
   have tP:(0:Int) < ((j + 1:Nat):Int):=by omega
   have hlt:j + 1 < n:=by omega
   have hlt0:(0:Int) ≤ ((j + 1:Nat):Int):=by omega
   have hlt1:(((j + 1:Nat):Int)) < (n:Int):=by omega
   have hX:=Uh HX
   have hS:=hX.fd
   obtain ⟨b,off,p,rfl,hp,⟨c0,c1,c2⟩,⟨hs1,hs2⟩,o1,o2⟩:=((Uh H).below hS.bel).at' hlt
   have e0:=hS.tx.c0
   have e1:=hS.tx.c1
   have e2:=hS.tx.c2
   have hpm:=mayQ_get (Uh HM) hp
   have hTb:=(Uh HT).below hS.bel
   obtain ⟨⟨⟨gy,xy,yy⟩,ey⟩,hY⟩:∃ r,AddF p.g p.x p.y z.g z.x z.y = r:=⟨_,rfl⟩
   have KP:=fun (W:World) (hb:Below wr.heap.size wr W) => radd_F p.g z.g p.a p.b z.a z.b p.n p.c p.m p.d z.n z.c z.m z.d p.x p.y z.x z.y W (hs1.below hb) (hs2.below hb) (hS.num.below hb) (hS.den.below hb) o1 o2 hS.ox hS.oy hpm hS.may (hTb.below hb)
   unfold ratV at KP
   rw [hY] at KP
   have HKP:=Hd KP
   have hst:=ft_step (Uh HM) (Uh HTm) (Uh HOk) hp hX.b
   have hY2:AddF p.g p.x p.y false (limbs (ftV (tmV ((p0 :: r).drop (j + 2)))).2) (limbs (ftV (tmV ((p0 :: r).drop (j + 2)))).1) = ((gy,xy,yy),ey):=by rw [← hX.x,← hX.y,← hX.g]; exact hY
   rw [hY2] at hst
   clear hY2
   have HST:=Hd hst
   have HTl:=Hd (tm_tail hp)
   have HBp:=Hd hX.b
   clear hst
   have HS:=Hd hS
   have HY:=Hd hY
   have HP:=Hd hpm
   clear KP hS hX hY hs1 hs2 o1 o2 hpm hp hTb
   go_wp2_with fail
   go_region_with (go_at_call 42; refine (Uh HKP _ (Below.refl _ _).drew).mono ?_; rintro _ wk ⟨v,rfl,ay,ny,cy,by_,my,dy,rfl,sx,sy,nx,nn,hb⟩; (try dsimp only at sx sy); unfold ratV; have hbk:Below wr.heap.size wr wk:=(Below.refl _ _).drew.trans hb; have hOx:=((Uh HS).tx.keep hbk).out; (obtain ⟨j0,u0⟩:=hOx.cells 0 (by decide)); (obtain ⟨j1,u1⟩:=hOx.cells 1 (by decide)); (obtain ⟨j2,u2_⟩:=hOx.cells 2 (by decide)); have v0:=hOx.fz 0 (by decide); have v1:=hOx.fz 1 (by decide); have v2:=hOx.fz 2 (by decide); have HN:=Hd (And.intro sx (And.intro sy (And.intro (show NewAt wr.heap.size ay from nx) (And.intro (show NewAt wr.heap.size by_ from nn) hbk)))); clear sx sy nx nn hb hbk hOx)
   all_goals
    have hS:=Uh HS
    obtain ⟨sx,sy,nx,nn,hbk⟩:=Uh HN
    have hne:=hS.ne
    have hne2:=hne.symm
    have hzl:=hS.tx.lt
    have hl:=addF_lists (g1:=p.g) (x1:=p.x) (y1:=p.y) (g2:=z.g) (x2:=z.x) (y2:=z.y)
    rw [Uh HY] at hl
    by_cases hz:ey = 0
    ·obtain ⟨g_,N_,D_,eq_,mm_,_⟩:=addF_ok (Uh HP) hS.may (by rw [Uh HY]; exact hz)
     rw [Uh HY] at eq_
     have hmy:MayR gy xy yy = true:=by cases eq_; exact mm_
     have hnx:=hS.next hbk sx sy nx nn hl.1 hl.2 hmy
     have hz2:(ey != 0) = false:=by simpa using hz
     have hst:=Uh HST
     have hbn:bigN (ftV (tmV ((p0 :: r).drop (j + 1)))).1 = false:=by
      cases hb:bigN (ftV (tmV ((p0 :: r).drop (j + 1)))).1
      ·rfl
      ·have h2:=congrArg Prod.snd hst; rw [hb] at h2; simp at h2; omega
     rw [hbn] at hst
     simp only [Bool.false_eq_true,if_false,Prod.mk.injEq] at hst
     obtain ⟨⟨hg_,hx_,hy_⟩,_⟩:=hst
     have hbB:ftB (tmV ((p0 :: r).drop (j + 1))) = false:=by rw [(Uh HTl).1] at hbn ⊢; exact ft_next (Uh HBp) hbn
     have hxne:xy ≠ []:=by rw [hx_,Ne,limbs_eq_nil]; have:=ftV_pos (ft_pos (Uh HM) (Uh HTm) (Uh HOk) j); omega
     have hsw:=hnx.swap (by rw [show gy = false from hg_] at hmy ⊢; exact may_swap hmy hxne) (fun q hq e => by have:=nx q hq; omega) (fun q hq e => by have:=nn q hq; omega)
     have HXn:=Hd (show FtX w _ Rz Ro (p0 :: r) (j + 1) ⟨gy,by_,my,dy,yy,ay,ny,cy,xy⟩ from ⟨hsw,hg_,hy_,hx_,hbB⟩)
     have hTr:=hnx.tx
     have k0_:=hTr.c0
     have k1_:=hTr.c1
     have k2_:=hTr.c2
     have m0_:=hTr.out.fz 0 (by decide)
     have m1_:=hTr.out.fz 1 (by decide)
     have m2_:=hTr.out.fz 2 (by decide)
     obtain ⟨w9,hw9⟩:∃ x,((wk.setCell ⟨Rz,0,none⟩ (.bool gy)).setCell ⟨Rz,1,none⟩ (.slice ay ny cy)).setCell ⟨Rz,2,none⟩ (.slice by_ my dy) = x:=⟨_,rfl⟩
     rw [hw9] at HXn k0_ k1_ k2_ m0_ m1_ m2_
     clear hTr u0 u1 u2_ v0 v1 v2
     clear hS sx sy nx nn hbk hl eq_ mm_ hmy hz HP HY HKP HN hnx hsw hbn hbB hxne HST HTl HBp HX hg_ hx_ hy_
     go_wp2_with fail
     try rw [hw9]
     clear hw9
     go_wp2_with fail
     try go_region
     all_goals
      try go_wp2_with fail
      exact ⟨⟨j + 1,⟨gy,by_,my,dy,yy,ay,ny,cy,xy⟩,by omega,by go_num,.inl ⟨by omega,Uh HXn⟩⟩,by simp [intOf]; try omega⟩
    ·obtain ⟨rfl,rfl,rfl⟩:=addF_err (Uh HY) hz
     have c4:=(three_set wk Rz (.bool false) (.slice ay ny cy) (.slice by_ my dy) ((hS.tx.keep hbk).out).cells).2.2.2
     have hOo:=(hS.out.keep hbk).chgQ c4 (fun e => hne2 e)
     have hBn:=(hS.bel.trans (hbk.mono hS.bel.size))
     have hBm:=hBn.trans (c4.below hBn.size (fun k hk e => by have:=hS.rz; omega))
     have hFe:FtF (p0 :: r) = ((false,[],[]),ey):=by
      have hst:=Uh HST
      have hbt:bigN (ftV (tmV ((p0 :: r).drop (j + 1)))).1 = true:=by
       cases hb:bigN (ftV (tmV ((p0 :: r).drop (j + 1)))).1
       ·have h2:=congrArg Prod.snd hst; rw [hb] at h2; simp at h2; exact absurd h2 hz
       ·rfl
      have h2:=congrArg Prod.snd hst
      rw [hbt] at h2
      simp at h2
      rw [ftF_big (Uh HM) (Uh HTm) (ft_big hbt (by rw [(Uh HTl).1]; simp)),h2]
     have HXe:=Hd (And.intro (ret_F (w:=w) (B:=w.heap.size) (gy:=false) hOo (sl_nil _) (sl_nil _) (newAt_nil _) (newAt_nil _) (fun p hp => by cases hp) (fun p hp => by cases hp) hBm hS.ro ey) (And.intro (three_set _ Ro (.bool false) (.slice none 0 0) (.slice none 0 0) hOo.cells) hFe))
     obtain ⟨j3,u3_⟩:=hOo.cells 0 (by decide)
     obtain ⟨j4,u4_⟩:=hOo.cells 1 (by decide)
     obtain ⟨j5,u5_⟩:=hOo.cells 2 (by decide)
     have v3:=hOo.fz 0 (by decide)
     have v4:=hOo.fz 1 (by decide)
     have v5:=hOo.fz 2 (by decide)
     have hz2:(ey != 0) = true:=by simpa using hz
     clear hS sx sy nx nn hbk hl hz HP HY HKP HN c4 hOo hBn hBm hFe HX HST HTl HBp
     go_wp2_with fail
     try go_region
     all_goals
      try go_wp2_with fail
      obtain ⟨hR,⟨t0_,t1_,t2_,cc⟩,hFe⟩:=Uh HXe
      generalize (((((wk.setCell ⟨Rz,0,none⟩ (.bool false)).setCell ⟨Rz,1,none⟩ (.slice ay ny cy)).setCell ⟨Rz,2,none⟩ (.slice by_ my dy)).setCell ⟨Ro,0,none⟩ (.bool false)).setCell ⟨Ro,1,none⟩ (.slice none 0 0)).setCell ⟨Ro,2,none⟩ (.slice none 0 0) = wq at *
      refine bodyPost_ret (by simp [results,Tryz.results13,go_sem,t0_,t1_,t2_]; try rfl) rfl ?_
      rw [hFe]
      first | exact hR.new | exact hR.drewQ.new
end Go.Proofs.YtpbcnkcnjnefiaaGreatDoor
