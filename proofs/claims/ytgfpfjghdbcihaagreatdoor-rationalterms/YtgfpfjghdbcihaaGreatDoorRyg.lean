/- Ryc -/
import Derived.Test.YtgfpfjghdbcihaaGreatDoorRy9
import Derived.Test.YtgfpfjghdbcihaaGreatDoorWi2
import Derived.Test.YtgfpfjghdbcihaaGreatDoorWrf
import Derived.Test.YtgfpfjghdbcihaaGreatDoorWr4
import Derived.Test.YtgfpfjghdbcihaaGreatDoorRu5
import Derived.Test.YtgfpfjghdbcihaaGreatDoorRv4
namespace Go.Proofs.YtgfpfjghdbcihaaGreatDoor
open Go.RowKit Go.Deep
set_option linter.unusedVariables false
theorem FdP.new {w w':World} {r:(Bool × List Nat × List Nat) × Int} {e:Ending} (h:FdP w w' w.heap.size r e):ResF w w' r e:=by
 obtain ⟨a,m,c,b,k,d,rfl,h1,h2,h3,h4,h5⟩:=h
 exact ⟨_,rfl,a,m,c,b,k,d,rfl,h1,h2,h3,h4,h5⟩
theorem may_swap {x y:List Nat} (h:MayR false x y = true) (hx:x ≠ []):MayR false y x = true:=by
 obtain ⟨h1,h2,h3,_,h5⟩:=MayR.parts h
 unfold MayR
 simp only [Bool.and_eq_true,Bool.not_eq_true',decide_eq_false_iff_not,decide_eq_true_eq]
 exact ⟨⟨⟨⟨h2,h1⟩,hx⟩,by simp⟩,by rw [Nat.gcd_comm]; exact h5⟩
set_option maxRecDepth 100000 in
set_option maxHeartbeats 16000000 in
theorem rfromTerms_ok (a:Option Addr) (n c:Nat) (p0:Nq) (r:List Nq) (w:World) (h:SlQ w a n c (p0 :: r)) (hm:mayQ (p0 :: r) = true) (ht:tmQ (p0 :: r) = true) (hT:Tab64 w) :
  Calls Tryz.prog 44 #[.slice a n c] w fun e w' => ResF w w' (FtF (p0 :: r)) e:=by
 obtain ⟨wo,hwo⟩:∃ x,w.alloc (.cells #[.bool false,.slice none 0 0,.slice none 0 0] 25) = x:=⟨_,rfl⟩
 have hbo:Below w.heap.size w wo:=by rw [← hwo]; exact bAl
 have hO:=Out.made w
 rw [hwo] at hO
 have hn1:n ≤ 1024 ∧ 0 < n:=by
  have h1:=(tmQ_get ht).1
  have h2:=h.len
  simp at h2
  omega
 obtain ⟨hn1,hn0⟩:=hn1
 have KA:=rmayAll_any a n c (p0 :: r) wo (h.below hbo) (by omega) (hT.below hbo)
 rw [hm] at KA
 have KT:=fun (W:World) (hb:Below wo.heap.size wo W) => rareTerms_any a n c (p0 :: r) W ((h.below hbo).below hb)
 rw [ht] at KT
 have HKA:=Hd KA
 have HKT:=Hd KT
 have H:=Hd h
 have HL:=Hd h.len
 have HM:=Hd hm
 have HTm:=Hd ht
 have HOk:=Hd (show ∀ p ∈ p0 :: r,Ok p.x from fun p hp => (h.each p hp).2.1)
 have HT:=Hd hT
 have HO:=Hd (And.intro hO hbo)
 have hRo:w.heap.size < wo.heap.size:=hO.lt
 clear KA KT h hm ht hT hO hbo
 go_enter Tryz.func44,Tryz.ntmps44
 go_wp2_with fail
 refine (Uh HKA).mono ?_
 rintro _ w1 ⟨rfl,b1⟩
 have HB1:=Hd b1
 clear b1 HKA
 go_wp2_with fail
 refine (Uh HKT _ (Uh HB1)).mono ?_
 rintro _ w2 ⟨rfl,b2⟩
 have HB2:=Hd ((Uh HB1).trans (b2.mono (Uh HB1).size))
 clear b2 HB1 HKT
 have KW:=ratWhole_any false none 0 0 w2
 unfold WhPost ratV at KW
 rw [show (false && decide (0 < 0)) = false from rfl] at KW
 have HKW:=Hd KW
 clear KW
 go_wp2_with fail
 refine (Uh HKW).mono ?_
 rintro _ w3 ⟨az,mz,cz,rfl,sz,nz,b3⟩
 obtain ⟨w4,hw4⟩:∃ x,w3.alloc (.cells #[.bool false,.slice none 0 0,.slice az mz cz] 25) = x:=⟨_,rfl⟩
 have b4:Below w3.heap.size w3 w4:=by rw [← hw4]; exact bAl
 have hTz:Tri w4 w3.heap.size (.bool false) (.slice none 0 0) (.slice az mz cz):=by rw [← hw4]; exact Tri.made _ _ _ _ _
 have hB3:=(Uh HB2).trans (b3.mono (Uh HB2).size)
 have hB4:=hB3.trans (b4.mono hB3.size)
 have hBw:=(Uh HO).2.trans (hB4.mono (Uh HO).2.size)
 have z3:=(Uh HO).2.size
 have z4:=(Uh HB2).size
 have z5:=b3.size
 obtain ⟨Rz,hRz⟩:∃ x,w3.heap.size = x:=⟨_,rfl⟩
 obtain ⟨Ro,hRo2⟩:∃ x,w.heap.size = x:=⟨_,rfl⟩
 have HX0:=Hd (show FtX w w4 Rz Ro (p0 :: r) n ⟨false,none,0,0,[],az,mz,cz,[1]⟩ from
  ⟨⟨hBw,by rw [← hRo2]; exact (Uh HO).1.keep hB4,by rw [← hRz]; exact hTz,sl_nil _,sz.below b4,Ok.nil,ok_unit,(show MayR false [] [1] = true by decide),newAt_nil _,fun x hx => Nat.le_trans (by omega) (nz x hx),fun p hp => by (cases hp),fun p hp _ e => by have:=nz p hp; omega,by omega,by omega,by omega,Nat.le_refl _⟩,rfl,by rw [List.drop_eq_nil_of_le (Nat.le_of_eq (Uh HL))]; rfl,by rw [List.drop_eq_nil_of_le (Nat.le_of_eq (Uh HL))]; rfl,by rw [List.drop_eq_nil_of_le (Nat.le_of_eq (Uh HL))]; rfl⟩)
 rw [hRo2] at hRo
 clear hTz hB3 hB4 hBw sz nz b3 b4 HB2 HO HKW
 go_wp2_with fail
 go_loopw [5,6] (fun iv _ wr => ∃ (k:Nat) (z:Nq),k ≤ n ∧ iv = .int .i64 ((k:Int) - 1) ∧ ((0 < k ∧ Hid (FtX w wr Rz Ro (p0 :: r) k z)) ∨ (k = 0 ∧ Hid (FdX w wr Rz Ro w.heap.size z) ∧ Hid (FtF (p0 :: r) = ((z.g,z.x,z.y),0))))) (fun iv _ _ => (intOf iv + 1).toNat)
 case atStart => exact ⟨n,_,Nat.le_refl _,rfl,.inl ⟨hn0,Uh HX0⟩⟩
 case round =>
  clear HX0
  obtain ⟨k,z,hk,rfl,hst⟩:=hrel
  rcases k with _ | _ | j
  ·have HD:Hid (FdX w wr Rz Ro w.heap.size z) ∧ Hid (FtF (p0 :: r) = ((z.g,z.x,z.y),0)):=by
    rcases hst with ⟨h1,_⟩ | ⟨_,h2⟩
    ·omega
    ·exact h2
   obtain ⟨HS,HFF⟩:=HD
   clear hst
   have hS:=Uh HS
   have e0:=hS.tx.c0
   have e1:=hS.tx.c1
   have e2:=hS.tx.c2
   have hOo:=hS.out
   obtain ⟨j0,u0⟩:=hOo.cells 0 (by decide)
   obtain ⟨j1,u1⟩:=hOo.cells 1 (by decide)
   obtain ⟨j2,u2_⟩:=hOo.cells 2 (by decide)
   have v0:=hOo.fz 0 (by decide)
   have v1:=hOo.fz 1 (by decide)
   have v2:=hOo.fz 2 (by decide)
   have hr1:=hS.ne
   have hr2:=hr1.symm
   have HXe:=Hd (And.intro (ret_F (w:=w) (B:=w.heap.size) (gy:=z.g) hOo hS.num hS.den hS.na hS.nb hS.pa hS.pb hS.bel hS.ro 0) (three_set wr Ro (.bool z.g) (.slice z.a z.n z.c) (.slice z.b z.m z.d) hOo.cells))
   have tI:¬ (0:Int) ≤ ((0:Nat):Int) - 1:=by omega
   clear hS hOo HS
   go_wp2_with fail
   try go_region
   all_goals
    try go_wp2_with fail
    obtain ⟨hR,t0_,t1_,t2_,cc⟩:=Uh HXe
    generalize ((wr.setCell ⟨Ro,0,none⟩ (.bool z.g)).setCell ⟨Ro,1,none⟩ (.slice z.a z.n z.c)).setCell ⟨Ro,2,none⟩ (.slice z.b z.m z.d) = wq at *
    refine bodyPost_ret (by simp [results,Tryz.results44,go_sem,t0_,t1_,t2_]; try rfl) rfl ?_
    rw [Uh HFF]
    first | exact hR.new | exact hR.drewQ.new
  ·have HX:Hid (FtX w wr Rz Ro (p0 :: r) (0 + 1) z):=by
    rcases hst with ⟨_,h1⟩ | ⟨h1,_⟩
    ·exact h1
    ·omega
   clear hst
   obtain ⟨i0,hi0⟩:∃ i0:Nat,i0 = 0:=⟨0,rfl⟩
   have tI:(((0 + 1:Nat):Int)) - 1 = ((i0:Nat):Int):=by omega
   rw [tI]
   have tP:¬ (0:Int) < ((i0:Nat):Int):=by omega
   have hlt:i0 < n:=by omega
   have hlt0:(0:Int) ≤ ((i0:Nat):Int):=by omega
   have hlt1:(((i0:Nat):Int)) < (n:Int):=by omega
   have hX:=Uh HX
   have hS:=hX.fd
   obtain ⟨b,off,p,rfl,hp,⟨c0,c1,c2⟩,⟨hs1,hs2⟩,o1,o2⟩:=((Uh H).below hS.bel).at' hlt
   have e0:=hS.tx.c0
   have e1:=hS.tx.c1
   have e2:=hS.tx.c2
   have hpm:=mayQ_get (Uh HM) hp
   have hTb:=(Uh HT).below hS.bel
   obtain ⟨⟨⟨gy,xy,yy⟩,ey⟩,hY⟩:∃ r,AddF p.g p.x p.y z.g z.x z.y = r:=⟨_,rfl⟩
   have KP:=fun (W:World) (hb:Below wr.heap.size wr W) => radd_F p.g z.g p.a p.b z.a z.b p.n p.c p.m p.d z.n z.c z.m z.d p.x p.y z.x z.y W (hs1.below hb) (hs2.below hb) (hS.num.below hb) (hS.den.below hb) o1 o2 hS.ox hS.oy hpm hS.may (hTb.below hb)
   unfold ratV at KP
   rw [hY] at KP
   have HKP:=Hd KP
   have hp0:p = p0:=by rw [hi0] at hp; simpa using hp.symm
   have hFF:FtF (p0 :: r) = ((gy,xy,yy),ey):=by
    rw [ftF_ok (Uh HM) (Uh HTm) (by have:=hX.b; simpa using this),← hY,hX.g,hX.x,hX.y,hp0]
    simp
   have HFF:=Hd hFF
   have HI:=Hd hi0
   clear hFF hp0 hi0
   have HS:=Hd hS
   have HY:=Hd hY
   have HP:=Hd hpm
   clear KP hS hX hY hs1 hs2 o1 o2 hpm hp hTb
   go_wp2_with fail
   go_region_with (go_at_call 77; refine (Uh HKP _ (Below.refl _ _).drew).mono ?_; rintro _ wk ⟨v,rfl,ay,ny,cy,by_,my,dy,rfl,sx,sy,nx,nn,hb⟩; (try dsimp only at sx sy); unfold ratV; have hbk:Below wr.heap.size wr wk:=(Below.refl _ _).drew.trans hb; have hOx:=((Uh HS).tx.keep hbk).out; (obtain ⟨j0,u0⟩:=hOx.cells 0 (by decide)); (obtain ⟨j1,u1⟩:=hOx.cells 1 (by decide)); (obtain ⟨j2,u2_⟩:=hOx.cells 2 (by decide)); have v0:=hOx.fz 0 (by decide); have v1:=hOx.fz 1 (by decide); have v2:=hOx.fz 2 (by decide); have HN:=Hd (And.intro sx (And.intro sy (And.intro (show NewAt wr.heap.size ay from nx) (And.intro (show NewAt wr.heap.size by_ from nn) hbk)))); clear sx sy nx nn hb hbk hOx)
   all_goals
    have hS:=Uh HS
    obtain ⟨sx,sy,nx,nn,hbk⟩:=Uh HN
    have hne:=hS.ne
    have hne2:=hne.symm
    have hzl:=hS.tx.lt
    have hl:=addF_lists (g1:=p.g) (x1:=p.x) (y1:=p.y) (g2:=z.g) (x2:=z.x) (y2:=z.y)
    rw [Uh HY] at hl
    by_cases hz:ey = 0
    ·obtain ⟨g_,N_,D_,eq_,mm_,_⟩:=addF_ok (Uh HP) hS.may (by rw [Uh HY]; exact hz)
     rw [Uh HY] at eq_
     have hmy:MayR gy xy yy = true:=by cases eq_; exact mm_
     have hnx:=hS.next hbk sx sy nx nn hl.1 hl.2 hmy
     have hz2:(ey != 0) = false:=by simpa using hz
     have HXn:=Hd (And.intro hnx (show FtF (p0 :: r) = ((gy,xy,yy),0) by rw [Uh HFF,hz]))
     clear hS sx sy nx nn hbk hl eq_ mm_ hmy hz HP HY HKP HN hnx HFF HX
     go_wp2_with fail
     exact ⟨⟨0,⟨gy,ay,ny,cy,xy,by_,my,dy,yy⟩,by omega,(by rw [Uh HI]),.inr ⟨rfl,(Uh HXn).1,(Uh HXn).2⟩⟩,by have:=Uh HI; simp [intOf]; try omega⟩
    ·obtain ⟨rfl,rfl,rfl⟩:=addF_err (Uh HY) hz
     have c4:=(three_set wk Rz (.bool false) (.slice ay ny cy) (.slice by_ my dy) ((hS.tx.keep hbk).out).cells).2.2.2
     have hOo:=(hS.out.keep hbk).chgQ c4 (fun e => hne2 e)
     have hBn:=(hS.bel.trans (hbk.mono hS.bel.size))
     have hBm:=hBn.trans (c4.below hBn.size (fun k hk e => by have:=hS.rz; omega))
     have hFe:FtF (p0 :: r) = ((false,[],[]),ey):=Uh HFF
     have HXe:=Hd (And.intro (ret_F (w:=w) (B:=w.heap.size) (gy:=false) hOo (sl_nil _) (sl_nil _) (newAt_nil _) (newAt_nil _) (fun p hp => by cases hp) (fun p hp => by cases hp) hBm hS.ro ey) (And.intro (three_set _ Ro (.bool false) (.slice none 0 0) (.slice none 0 0) hOo.cells) hFe))
     obtain ⟨j3,u3_⟩:=hOo.cells 0 (by decide)
     obtain ⟨j4,u4_⟩:=hOo.cells 1 (by decide)
     obtain ⟨j5,u5_⟩:=hOo.cells 2 (by decide)
     have v3:=hOo.fz 0 (by decide)
     have v4:=hOo.fz 1 (by decide)
     have v5:=hOo.fz 2 (by decide)
     have hz2:(ey != 0) = true:=by simpa using hz
     clear hS sx sy nx nn hbk hl hz HP HY HKP HN c4 hOo hBn hBm hFe HX HFF
     go_wp2_with fail
     try go_region
     all_goals
      try go_wp2_with fail
      obtain ⟨hR,⟨t0_,t1_,t2_,cc⟩,hFe⟩:=Uh HXe
      generalize (((((wk.setCell ⟨Rz,0,none⟩ (.bool false)).setCell ⟨Rz,1,none⟩ (.slice ay ny cy)).setCell ⟨Rz,2,none⟩ (.slice by_ my dy)).setCell ⟨Ro,0,none⟩ (.bool false)).setCell ⟨Ro,1,none⟩ (.slice none 0 0)).setCell ⟨Ro,2,none⟩ (.slice none 0 0) = wq at *
      refine bodyPost_ret (by simp [results,Tryz.results44,go_sem,t0_,t1_,t2_]; try rfl) rfl ?_
      rw [hFe]
      first | exact hR.new | exact hR.drewQ.new
  ·have HX:Hid (FtX w wr Rz Ro (p0 :: r) (j + 2) z):=by
    rcases hst with ⟨_,h1⟩ | ⟨h1,_⟩
    ·exact h1
    ·omega
   clear hst
   have tI:(((j + 2:Nat):Int)) - 1 = ((j + 1:Nat):Int):=by omega
   rw [tI]
   have tP:(0:Int) < ((j + 1:Nat):Int):=by omega
   have hlt:j + 1 < n:=by omega
   have hlt0:(0:Int) ≤ ((j + 1:Nat):Int):=by omega
   have hlt1:(((j + 1:Nat):Int)) < (n:Int):=by omega
   have hX:=Uh HX
   have hS:=hX.fd
   obtain ⟨b,off,p,rfl,hp,⟨c0,c1,c2⟩,⟨hs1,hs2⟩,o1,o2⟩:=((Uh H).below hS.bel).at' hlt
   have e0:=hS.tx.c0
   have e1:=hS.tx.c1
   have e2:=hS.tx.c2
   have hpm:=mayQ_get (Uh HM) hp
   have hTb:=(Uh HT).below hS.bel
   obtain ⟨⟨⟨gy,xy,yy⟩,ey⟩,hY⟩:∃ r,AddF p.g p.x p.y z.g z.x z.y = r:=⟨_,rfl⟩
   have KP:=fun (W:World) (hb:Below wr.heap.size wr W) => radd_F p.g z.g p.a p.b z.a z.b p.n p.c p.m p.d z.n z.c z.m z.d p.x p.y z.x z.y W (hs1.below hb) (hs2.below hb) (hS.num.below hb) (hS.den.below hb) o1 o2 hS.ox hS.oy hpm hS.may (hTb.below hb)
   unfold ratV at KP
   rw [hY] at KP
   have HKP:=Hd KP
   have hst:=ft_step (Uh HM) (Uh HTm) (Uh HOk) hp hX.b
   have hY2:AddF p.g p.x p.y false (limbs (ftV (tmV ((p0 :: r).drop (j + 2)))).2) (limbs (ftV (tmV ((p0 :: r).drop (j + 2)))).1) = ((gy,xy,yy),ey):=by rw [← hX.x,← hX.y,← hX.g]; exact hY
   rw [hY2] at hst
   clear hY2
   have HST:=Hd hst
   have HTl:=Hd (tm_tail hp)
   have HBp:=Hd hX.b
   clear hst
   have HS:=Hd hS
   have HY:=Hd hY
   have HP:=Hd hpm
   clear KP hS hX hY hs1 hs2 o1 o2 hpm hp hTb
   go_wp2_with fail
   go_region_with (go_at_call 77; refine (Uh HKP _ (Below.refl _ _).drew).mono ?_; rintro _ wk ⟨v,rfl,ay,ny,cy,by_,my,dy,rfl,sx,sy,nx,nn,hb⟩; (try dsimp only at sx sy); unfold ratV; have hbk:Below wr.heap.size wr wk:=(Below.refl _ _).drew.trans hb; have hOx:=((Uh HS).tx.keep hbk).out; (obtain ⟨j0,u0⟩:=hOx.cells 0 (by decide)); (obtain ⟨j1,u1⟩:=hOx.cells 1 (by decide)); (obtain ⟨j2,u2_⟩:=hOx.cells 2 (by decide)); have v0:=hOx.fz 0 (by decide); have v1:=hOx.fz 1 (by decide); have v2:=hOx.fz 2 (by decide); have HN:=Hd (And.intro sx (And.intro sy (And.intro (show NewAt wr.heap.size ay from nx) (And.intro (show NewAt wr.heap.size by_ from nn) hbk)))); clear sx sy nx nn hb hbk hOx)
   all_goals
    have hS:=Uh HS
    obtain ⟨sx,sy,nx,nn,hbk⟩:=Uh HN
    have hne:=hS.ne
    have hne2:=hne.symm
    have hzl:=hS.tx.lt
    have hl:=addF_lists (g1:=p.g) (x1:=p.x) (y1:=p.y) (g2:=z.g) (x2:=z.x) (y2:=z.y)
    rw [Uh HY] at hl
    by_cases hz:ey = 0
    ·obtain ⟨g_,N_,D_,eq_,mm_,_⟩:=addF_ok (Uh HP) hS.may (by rw [Uh HY]; exact hz)
     rw [Uh HY] at eq_
     have hmy:MayR gy xy yy = true:=by cases eq_; exact mm_
     have hnx:=hS.next hbk sx sy nx nn hl.1 hl.2 hmy
     have hz2:(ey != 0) = false:=by simpa using hz
     have hst:=Uh HST
     have hbn:bigN (ftV (tmV ((p0 :: r).drop (j + 1)))).1 = false:=by
      cases hb:bigN (ftV (tmV ((p0 :: r).drop (j + 1)))).1
      ·rfl
      ·have h2:=congrArg Prod.snd hst; rw [hb] at h2; simp at h2; omega
     rw [hbn] at hst
     simp only [Bool.false_eq_true,if_false,Prod.mk.injEq] at hst
     obtain ⟨⟨hg_,hx_,hy_⟩,_⟩:=hst
     have hbB:ftB (tmV ((p0 :: r).drop (j + 1))) = false:=by rw [(Uh HTl).1] at hbn ⊢; exact ft_next (Uh HBp) hbn
     have hxne:xy ≠ []:=by rw [hx_,Ne,limbs_eq_nil]; have:=ftV_pos (ft_pos (Uh HM) (Uh HTm) (Uh HOk) j); omega
     have hsw:=hnx.swap (by rw [show gy = false from hg_] at hmy ⊢; exact may_swap hmy hxne) (fun q hq e => by have:=nx q hq; omega) (fun q hq e => by have:=nn q hq; omega)
     have HXn:=Hd (show FtX w _ Rz Ro (p0 :: r) (j + 1) ⟨gy,by_,my,dy,yy,ay,ny,cy,xy⟩ from ⟨hsw,hg_,hy_,hx_,hbB⟩)
     have hTr:=hnx.tx
     have k0_:=hTr.c0
     have k1_:=hTr.c1
     have k2_:=hTr.c2
     have m0_:=hTr.out.fz 0 (by decide)
     have m1_:=hTr.out.fz 1 (by decide)
     have m2_:=hTr.out.fz 2 (by decide)
     obtain ⟨w9,hw9⟩:∃ x,((wk.setCell ⟨Rz,0,none⟩ (.bool gy)).setCell ⟨Rz,1,none⟩ (.slice ay ny cy)).setCell ⟨Rz,2,none⟩ (.slice by_ my dy) = x:=⟨_,rfl⟩
     rw [hw9] at HXn k0_ k1_ k2_ m0_ m1_ m2_
     clear hTr u0 u1 u2_ v0 v1 v2
     clear hS sx sy nx nn hbk hl eq_ mm_ hmy hz HP HY HKP HN hnx hsw hbn hbB hxne HST HTl HBp HX hg_ hx_ hy_
     go_wp2_with fail
     try rw [hw9]
     clear hw9
     go_wp2_with fail
     try go_region
     all_goals
      try go_wp2_with fail
      exact ⟨⟨j + 1,⟨gy,by_,my,dy,yy,ay,ny,cy,xy⟩,by omega,by go_num,.inl ⟨by omega,Uh HXn⟩⟩,by simp [intOf]; try omega⟩
    ·obtain ⟨rfl,rfl,rfl⟩:=addF_err (Uh HY) hz
     have c4:=(three_set wk Rz (.bool false) (.slice ay ny cy) (.slice by_ my dy) ((hS.tx.keep hbk).out).cells).2.2.2
     have hOo:=(hS.out.keep hbk).chgQ c4 (fun e => hne2 e)
     have hBn:=(hS.bel.trans (hbk.mono hS.bel.size))
     have hBm:=hBn.trans (c4.below hBn.size (fun k hk e => by have:=hS.rz; omega))
     have hFe:FtF (p0 :: r) = ((false,[],[]),ey):=by
      have hst:=Uh HST
      have hbt:bigN (ftV (tmV ((p0 :: r).drop (j + 1)))).1 = true:=by
       cases hb:bigN (ftV (tmV ((p0 :: r).drop (j + 1)))).1
       ·have h2:=congrArg Prod.snd hst; rw [hb] at h2; simp at h2; exact absurd h2 hz
       ·rfl
      have h2:=congrArg Prod.snd hst
      rw [hbt] at h2
      simp at h2
      rw [ftF_big (Uh HM) (Uh HTm) (ft_big hbt (by rw [(Uh HTl).1]; simp)),h2]
     have HXe:=Hd (And.intro (ret_F (w:=w) (B:=w.heap.size) (gy:=false) hOo (sl_nil _) (sl_nil _) (newAt_nil _) (newAt_nil _) (fun p hp => by cases hp) (fun p hp => by cases hp) hBm hS.ro ey) (And.intro (three_set _ Ro (.bool false) (.slice none 0 0) (.slice none 0 0) hOo.cells) hFe))
     obtain ⟨j3,u3_⟩:=hOo.cells 0 (by decide)
     obtain ⟨j4,u4_⟩:=hOo.cells 1 (by decide)
     obtain ⟨j5,u5_⟩:=hOo.cells 2 (by decide)
     have v3:=hOo.fz 0 (by decide)
     have v4:=hOo.fz 1 (by decide)
     have v5:=hOo.fz 2 (by decide)
     have hz2:(ey != 0) = true:=by simpa using hz
     clear hS sx sy nx nn hbk hl hz HP HY HKP HN c4 hOo hBn hBm hFe HX HST HTl HBp
     go_wp2_with fail
     try go_region
     all_goals
      try go_wp2_with fail
      obtain ⟨hR,⟨t0_,t1_,t2_,cc⟩,hFe⟩:=Uh HXe
      generalize (((((wk.setCell ⟨Rz,0,none⟩ (.bool false)).setCell ⟨Rz,1,none⟩ (.slice ay ny cy)).setCell ⟨Rz,2,none⟩ (.slice by_ my dy)).setCell ⟨Ro,0,none⟩ (.bool false)).setCell ⟨Ro,1,none⟩ (.slice none 0 0)).setCell ⟨Ro,2,none⟩ (.slice none 0 0) = wq at *
      refine bodyPost_ret (by simp [results,Tryz.results44,go_sem,t0_,t1_,t2_]; try rfl) rfl ?_
      rw [hFe]
      first | exact hR.new | exact hR.drewQ.new
set_option maxRecDepth 100000 in
set_option maxHeartbeats 8000000 in
theorem wSign_any (g1:Bool) (a1 b1:Option Addr) (n1 c1 m1 d1:Nat) (x1 y1:List Nat) (w:World) (hx1:Sl w a1 n1 c1 x1) (hy1:Sl w b1 m1 d1 y1) (ox1:Ok x1) (oy1:Ok y1) :
  Calls Tryz.prog 91 #[ratV g1 a1 n1 c1 b1 m1 d1] w fun e w' => e = .returned (.int .i64 (SignF g1 x1 y1)) ∧ Below w.heap.size w w':=by
 have bx:=Box.made w g1 a1 n1 c1 b1 m1 d1
 obtain ⟨wa,hwa⟩:∃ wa,ratBox w g1 a1 n1 c1 b1 m1 d1 = wa:=⟨_,rfl⟩
 rw [hwa] at bx
 unfold ratBox at hwa
 have hB:=bx.bel
 have p0:=bx.d0
 have p1:=bx.d1
 have p2:=bx.d2
 have HB:=Hd hB
 have K1:=wmay_any g1 a1 b1 n1 c1 m1 d1 x1 y1 wa (hx1.below hB) (hy1.below hB) ox1 oy1
 have hl:=hx1.len
 obtain ⟨SF,hSF⟩:∃ s,SignF g1 x1 y1 = s:=⟨_,rfl⟩
 rw [hSF]
 by_cases h0:x1 = []
 ·have hn:n1 = 0:=by rw [← hl,h0]; rfl
  subst hn
  have hS:SF = 0:=by
   rw [← hSF]
   unfold SignF
   by_cases hm:MayR g1 x1 y1 = true
   ·rw [if_pos hm]
    have hg:g1 = false:=by
     cases g1
     ·rfl
     ·exact absurd h0 ((MayR.parts hm).2.2.2.1 rfl)
    unfold signR
    simp [hg,h0]
   ·rw [if_neg hm]
  subst hS
  clear hSF K1 hx1 hy1 bx hB h0 hl
  unfold ratV
  go_enter Tryz.func91,Tryz.ntmps91
  go_wp2_with fail
  go_ret
  exact ⟨rfl,Uh HB⟩
 ·have hn:0 < n1:=by rw [← hl]; exact List.length_pos_iff.2 h0
  have t0:((n1:Int) == 0) = false:=by simp; omega
  cases hm:MayR g1 x1 y1
  ·rw [hm] at K1
   have hS:SF = 0:=by rw [← hSF]; unfold SignF; rw [hm]; rfl
   subst hS
   have HK1:=Hd K1
   clear hSF K1 hx1 hy1 bx hB h0 hl
   unfold ratV at HK1 ⊢
   go_enter Tryz.func91,Tryz.ntmps91
   go_wp2_with fail
   refine (Uh HK1).mono ?_
   rintro _ w1 ⟨rfl,b1'⟩
   have HB1:=Hd ((Uh HB).trans (b1'.mono (Uh HB).size))
   clear b1' HK1
   go_wp2_with fail
   go_ret
   exact ⟨rfl,Uh HB1⟩
  ·rw [hm] at K1
   have HK1:=Hd K1
   have hS:SF = if g1 then -1 else 1:=by rw [← hSF]; unfold SignF signR; rw [hm]; simp [h0]
   clear hSF K1 hx1 hy1 bx hB h0 hl
   unfold ratV at HK1 ⊢
   cases g1
   ·obtain rfl:SF = 1:=by rw [hS]; rfl
    clear hS
    go_enter Tryz.func91,Tryz.ntmps91
    go_wp2_with fail
    refine (Uh HK1).mono ?_
    rintro _ w1 ⟨rfl,b1'⟩
    have e0:=(ck b1' p0)
    have HB1:=Hd ((Uh HB).trans (b1'.mono (Uh HB).size))
    clear b1' HK1
    go_wp2_with fail
    go_ret
    exact ⟨rfl,Uh HB1⟩
   ·obtain rfl:SF = -1:=by rw [hS]; rfl
    clear hS
    go_enter Tryz.func91,Tryz.ntmps91
    go_wp2_with fail
    refine (Uh HK1).mono ?_
    rintro _ w1 ⟨rfl,b1'⟩
    have e0:=(ck b1' p0)
    have HB1:=Hd ((Uh HB).trans (b1'.mono (Uh HB).size))
    clear b1' HK1
    go_wp2_with fail
    go_ret
    exact ⟨rfl,Uh HB1⟩
set_option maxRecDepth 100000 in
set_option maxHeartbeats 4000000 in
theorem wisWhole_any (g:Bool) (a b:Option Addr) (n c m d:Nat) (y:List Nat) (w:World) (hy:Sl w b m d y) (oy:Ok y) :
  Calls Tryz.prog 90 #[ratV g a n c b m d] w fun e w' => e = .returned (.bool (decide (y = [1]))) ∧ Below w.heap.size w w':=by
 have bx:=Box.made w g a n c b m d
 obtain ⟨wa,hwa⟩:∃ wa,ratBox w g a n c b m d = wa:=⟨_,rfl⟩
 rw [hwa] at bx
 have hba:=bx.bel
 unfold ratBox at hwa
 have p0:=bx.d0
 have p1:=bx.d1
 have p2:=bx.d2
 have HB:=Hd hba
 unfold ratV
 by_cases hm:m = 1
 ·subst hm
  have hl:=hy.len
  have hyw:=hy.below hba
  have hne:y ≠ []:=by intro e; rw [e] at hl; simp at hl
  obtain ⟨yb,yo,rfl,hcell⟩:=hyw.cells.resolve_left hne
  have c0:=hcell 0 (by omega)
  rw [Nat.add_zero] at c0
  obtain ⟨Y0,hY0⟩:∃ z,y.getD 0 0 = z:=⟨_,rfl⟩
  rw [hY0] at c0
  have hy1:y = [Y0]:=by
   match y,hl with
   | [z],_ => simp at hY0; rw [hY0]
  have HD:=Hd (show decide (y = [1]) = decide ((Y0:Int) = 1) by rw [hy1]; congr 1; exact propext ⟨fun h => by injection h with h _; rw [h]; rfl,fun h => by congr 1; omega⟩)
  have HD2:=Hd (show ((Y0:Int) == 1) = decide ((Y0:Int) = 1) from Bool.beq_eq_decide_eq _ _)
  clear hyw hne hcell hl hy1 hY0 hy bx hba
  go_enter Tryz.func90,Tryz.ntmps90
  go_wp2_with fail
  go_ret
  rw [Uh HD]
  first | exact ⟨rfl,Uh HB⟩ | exact ⟨by rw [Uh HD2],Uh HB⟩ | exact ⟨by simp,Uh HB⟩
 ·have HD:=Hd (show decide (y = [1]) = false from decide_eq_false (fun e => hm (by have:=hy.len; rw [e] at this; simp at this; omega)))
  have t1:((m:Int) == 1) = false:=by simp; omega
  have t2:¬ (m:Int) = 1:=by omega
  have t3:decide ((m:Int) = 1) = false:=decide_eq_false t2
  clear hy bx hba
  go_enter Tryz.func90,Tryz.ntmps90
  go_wp2_with fail
  go_ret
  rw [Uh HD]
  exact ⟨rfl,Uh HB⟩

theorem signF_lt {g:Bool} {x y:List Nat} (h:MayR g x y = true):decide (SignF g x y < 1) = (g || decide (x = [])):=by
 unfold SignF
 rw [h]
 cases g <;> by_cases e:x = [] <;> simp [e,signR]

structure FwX (w wr:World) (ps:List Nq) (k:Nat) (an:Option Addr) (mn cn:Nat) (ad:Option Addr) (md cd:Nat):Prop where
 num:Sl wr an mn cn (limbs (ftV (tmV (ps.drop k))).1)
 den:Sl wr ad md cd (limbs (ftV (tmV (ps.drop k))).2)
 nn:an = none → cn = 0
 nd:ad = none → cd = 0
 b:ftB (tmV (ps.drop k)) = false
 bel:Below w.heap.size w wr
theorem SmX.put {w wr wk:World} {Ro Rx:Nat} {z:Nq} {gy:Bool} {ay by_:Option Addr} {ny cy my dy:Nat} {xy yy:List Nat} (h:SmX w wr Ro Rx z) (hb:Below wr.heap.size wr wk) (hx:Sl wk ay ny cy xy) (hy:Sl wk by_ my dy yy) (nx:NewAt wr.heap.size ay) (nn:NewAt wr.heap.size by_) :
  Tri (((wk.setCell ⟨Rx,0,none⟩ (.bool gy)).setCell ⟨Rx,1,none⟩ (.slice ay ny cy)).setCell ⟨Rx,2,none⟩ (.slice by_ my dy)) Rx (.bool gy) (.slice ay ny cy) (.slice by_ my dy) ∧
  Out (((wk.setCell ⟨Rx,0,none⟩ (.bool gy)).setCell ⟨Rx,1,none⟩ (.slice ay ny cy)).setCell ⟨Rx,2,none⟩ (.slice by_ my dy)) Ro ∧
  Sl (((wk.setCell ⟨Rx,0,none⟩ (.bool gy)).setCell ⟨Rx,1,none⟩ (.slice ay ny cy)).setCell ⟨Rx,2,none⟩ (.slice by_ my dy)) ay ny cy xy ∧
  Sl (((wk.setCell ⟨Rx,0,none⟩ (.bool gy)).setCell ⟨Rx,1,none⟩ (.slice ay ny cy)).setCell ⟨Rx,2,none⟩ (.slice by_ my dy)) by_ my dy yy ∧
  Below w.heap.size w (((wk.setCell ⟨Rx,0,none⟩ (.bool gy)).setCell ⟨Rx,1,none⟩ (.slice ay ny cy)).setCell ⟨Rx,2,none⟩ (.slice by_ my dy)) ∧ NewAt (Ro + 1) ay ∧ NewAt (Ro + 1) by_:=by
 have hO:=(h.tx.keep hb).out
 have c4:=(three_set wk Rx (.bool gy) (.slice ay ny cy) (.slice by_ my dy) hO.cells).2.2.2
 have hlt:=h.tx.lt
 have hr:=h.rx
 have hB:=h.bel.trans (hb.mono h.bel.size)
 exact ⟨tri_setQ hO _ _ _,(h.out.keep hb).chgQ c4 (fun e => by omega),hx.chg c4 (fun p hp _ e => by have:=nx p hp; omega),hy.chg c4 (fun p hp _ e => by have:=nn p hp; omega),hB.trans (c4.below hB.size (fun k hk e => by have:=h.ro; omega)),fun p hp => by have:=nx p hp; omega,fun p hp => by have:=nn p hp; omega⟩
theorem con_cons {p q:Nq} {l k:List Nq} (h:(p :: l).map conQ = (q :: k).map conQ):p.g = q.g ∧ p.x = q.x ∧ p.y = q.y ∧ l.map conQ = k.map conQ:=by
 simp only [List.map_cons] at h
 injection h with h1 h2
 unfold conQ at h1
 injection h1 with e1 e2
 injection e2 with e2 e3
 exact ⟨e1,e2,e3,h2⟩
theorem mayQ_con {ps qs:List Nq} (h:ps.map conQ = qs.map conQ):mayQ ps = mayQ qs:=by
 induction ps generalizing qs with
 | nil => cases qs with
  | nil => rfl
  | cons q k => simp at h
 | cons p l ih => cases qs with
  | nil => simp at h
  | cons q k =>
   obtain ⟨e1,e2,e3,e4⟩:=con_cons h
   have:=ih e4
   unfold mayQ at this ⊢
   simp only [List.all_cons,e1,e2,e3,this]
theorem tmV_con {ps qs:List Nq} (h:ps.map conQ = qs.map conQ):tmV ps = tmV qs:=by
 have h2:=congrArg (List.map (fun z:Bool × List Nat × List Nat => val z.2.1)) h
 simp only [List.map_map] at h2
 exact h2
theorem all_con {ps qs:List Nq} (h:ps.map conQ = qs.map conQ):ps.all tmP = qs.all tmP:=by
 induction ps generalizing qs with
 | nil => cases qs with
  | nil => rfl
  | cons q k => simp at h
 | cons p l ih => cases qs with
  | nil => simp at h
  | cons q k =>
   obtain ⟨e1,e2,e3,e4⟩:=con_cons h
   simp only [List.all_cons,ih e4]
   congr 1
   unfold tmP
   rw [e1,e2,e3]
theorem ftF_con {ps qs:List Nq} (h:ps.map conQ = qs.map conQ):FtF ps = FtF qs:=by
 have hm:=mayQ_con h
 cases ps with
 | nil => cases qs with
  | nil => rfl
  | cons q k => simp at h
 | cons p l => cases qs with
  | nil => simp at h
  | cons q k =>
   obtain ⟨e1,e2,e3,e4⟩:=con_cons h
   have hl:l.length = k.length:=by simpa using congrArg List.length e4
   have ht:tmQ (p :: l) = tmQ (q :: k):=by
    show (decide (l.length ≤ 1023) && decide (p.y = [1]) && l.all tmP) = (decide (k.length ≤ 1023) && decide (q.y = [1]) && k.all tmP)
    rw [hl,e3,all_con e4]
   have hv:=tmV_con e4
   unfold FtF
   rw [hm,ht]
   simp only [hv,e1,e2,e3]
end Go.Proofs.YtgfpfjghdbcihaaGreatDoor
