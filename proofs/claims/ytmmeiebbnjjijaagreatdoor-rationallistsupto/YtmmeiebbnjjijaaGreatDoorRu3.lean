/- Wri -/
import Derived.Test.YtmmeiebbnjjijaaGreatDoorWrf
import Derived.Test.YtmmeiebbnjjijaaGreatDoorWrh
import Derived.Test.YtmmeiebbnjjijaaGreatDoorPa2
import Derived.Test.YtmmeiebbnjjijaaGreatDoorWrd
import Derived.Test.YtmmeiebbnjjijaaGreatDoorWij
import Derived.Test.YtmmeiebbnjjijaaGreatDoorWr1
import Derived.Test.YtmmeiebbnjjijaaGreatDoorRl4
import Derived.Deep.RegionHeld3
namespace Go.Proofs.YtmmeiebbnjjijaaGreatDoor
open Go.RowKit Go.Deep
set_option linter.unusedVariables false

theorem plus_lowest {g1 g2 g3:Bool} {x1 y1 x2 y2:List Nat} (h1:MayR g1 x1 y1 = true) (h2:MayR g2 x2 y2 = true) (h3:Bool) (e3:nI h3 (val x2) = nI g3 (val x2)) :
  lowF (cmbV g1 (val x1 * val y2) h3 (val x2 * val y1)).2 (cmbV g1 (val x1 * val y2) h3 (val x2 * val y1)).1 (val y1 * val y2) = if bigN (adN g1 x1 y1 g3 x2 y2) || bigN (adD g1 x1 y1 g3 x2 y2) then ((false,[],[]),2) else (((adS g1 x1 y1 g3 x2 y2).2 && decide (adN g1 x1 y1 g3 x2 y2 ≠ 0),limbs (adN g1 x1 y1 g3 x2 y2),limbs (adD g1 x1 y1 g3 x2 y2)),0):=by
 obtain ⟨_,_,_,_,l1⟩:=MayR.parts h1
 obtain ⟨_,_,_,_,l2⟩:=MayR.parts h2
 have p1:=mayR_pos h1
 have p2:=mayR_pos h2
 have hGp:0 < adG y1 y2:=Nat.gcd_pos_of_pos_right _ p2
 have hD:0 < adD g1 x1 y1 g3 x2 y2:=by
  unfold adD adC
  exact Nat.mul_pos (Nat.mul_pos (div_pos_of_dvd (Nat.gcd_dvd_left _ _) p1) (div_pos_of_dvd (Nat.gcd_dvd_right _ _) p2)) (div_pos_of_dvd (Nat.gcd_dvd_right _ _) hGp)
 refine lowF_is (add_low (G:=adG y1 y2) l1 l2 p1 p2 rfl (cmbV_abs g1 g3 _ _)) hD (Nat.mul_pos p1 p2) ?_
 rw [cmbV_val,nI_mul,nI_mul,e3]
 exact add_val (G:=adG y1 y2) rfl p2 (cmbV_val g1 g3 _ _)
theorem radd_F (g1 g2:Bool) (a1 b1 a2 b2:Option Addr) (n1 c1 m1 d1 n2 c2 m2 d2:Nat) (x1 y1 x2 y2:List Nat) (w:World) (hx1:Sl w a1 n1 c1 x1) (hy1:Sl w b1 m1 d1 y1) (hx2:Sl w a2 n2 c2 x2) (hy2:Sl w b2 m2 d2 y2) (ox1:Ok x1) (oy1:Ok y1) (ox2:Ok x2) (oy2:Ok y2) (k1:MayR g1 x1 y1 = true) (k2:MayR g2 x2 y2 = true) (hT:Tab64 w) :
  Calls Tryz.prog 95 #[ratV g1 a1 n1 c1 b1 m1 d1,ratV g2 a2 n2 c2 b2 m2 d2] w fun e w' => ResF w w' (AddF g1 x1 y1 g2 x2 y2) e:=by
 obtain ⟨ka1,kb1,e1,_,_⟩:=MayR.parts k1
 obtain ⟨ka2,kb2,e2,_,_⟩:=MayR.parts k2
 refine (ratadd_any g1 g2 a1 b1 a2 b2 n1 c1 m1 d1 n2 c2 m2 d2 x1 y1 x2 y2 w hx1 hy1 hx2 hy2 ox1 oy1 ox2 oy2 ka1 kb1 ka2 kb2 e1 e2 hT (by_any w)).mono (fun e w' h => ?_)
 unfold MuPost at h
 unfold ResF AddF
 rw [if_pos (by rw [k1,k2]; rfl)]
 split at h
 ·rename_i hbig
  rw [if_pos hbig]
  exact h
 ·rename_i hbig
  rw [if_neg hbig]
  exact h
theorem rmultiply_F (g1 g2:Bool) (a1 b1 a2 b2:Option Addr) (n1 c1 m1 d1 n2 c2 m2 d2:Nat) (x1 y1 x2 y2:List Nat) (w:World) (hx1:Sl w a1 n1 c1 x1) (hy1:Sl w b1 m1 d1 y1) (hx2:Sl w a2 n2 c2 x2) (hy2:Sl w b2 m2 d2 y2) (ox1:Ok x1) (oy1:Ok y1) (ox2:Ok x2) (oy2:Ok y2) (k1:MayR g1 x1 y1 = true) (k2:MayR g2 x2 y2 = true) (hT:Tab64 w) :
  Calls Tryz.prog 115 #[ratV g1 a1 n1 c1 b1 m1 d1,ratV g2 a2 n2 c2 b2 m2 d2] w fun e w' => ResF w w' (MulF g1 x1 y1 g2 x2 y2) e:=by
 obtain ⟨ka1,kb1,e1,_,_⟩:=MayR.parts k1
 obtain ⟨ka2,kb2,e2,_,_⟩:=MayR.parts k2
 refine (ratmultiply_any g1 g2 a1 b1 a2 b2 n1 c1 m1 d1 n2 c2 m2 d2 x1 y1 x2 y2 w hx1 hy1 hx2 hy2 ox1 oy1 ox2 oy2 ka1 kb1 ka2 kb2 e1 e2 hT).mono (fun e w' h => ?_)
 unfold MuPost at h
 unfold ResF MulF
 rw [if_pos (by rw [k1,k2]; rfl)]
 split at h
 ·rename_i hbig
  rw [if_pos hbig]
  exact h
 ·rename_i hbig
  rw [if_neg hbig]
  exact h
theorem wplus_F (g1 g2:Bool) (a1 b1 a2 b2:Option Addr) (n1 c1 m1 d1 n2 c2 m2 d2:Nat) (x1 y1 x2 y2:List Nat) (w:World) (hx1:Sl w a1 n1 c1 x1) (hy1:Sl w b1 m1 d1 y1) (hx2:Sl w a2 n2 c2 x2) (hy2:Sl w b2 m2 d2 y2) (ox1:Ok x1) (oy1:Ok y1) (ox2:Ok x2) (oy2:Ok y2) (k1:MayR g1 x1 y1 = true) (k2:MayR g2 x2 y2 = true) :
  Calls Tryz.prog 128 #[ratV g1 a1 n1 c1 b1 m1 d1,ratV g2 a2 n2 c2 b2 m2 d2] w fun e w' => ResF w w' (AddF g1 x1 y1 g2 x2 y2) e:=by
 obtain ⟨ka1,kb1,e1,_,_⟩:=MayR.parts k1
 obtain ⟨ka2,kb2,e2,_,_⟩:=MayR.parts k2
 have hF:lowF (cmbV g1 (val x1 * val y2) g2 (val x2 * val y1)).2 (cmbV g1 (val x1 * val y2) g2 (val x2 * val y1)).1 (val y1 * val y2) = AddF g1 x1 y1 g2 x2 y2:=by
  rw [plus_lowest (g3:=g2) k1 k2 g2 rfl]
  unfold AddF; rw [k1,k2]; rfl
 have sz:∀ {a:Option Addr} {n c:Nat} {x:List Nat},Sl w a n c x → MayL x = true → n ≤ 1000000:=fun h m => by
  have h1:=h.len
  have h2:_ ≤ 2048:=MayL.len m
  omega
 have K:=wplus_any g1 g2 a1 b1 a2 b2 n1 c1 m1 d1 n2 c2 m2 d2 x1 y1 x2 y2 w hx1 hy1 hx2 hy2 ox1 oy1 ox2 oy2 (MayL.norm ka1) (MayL.norm kb1) (MayL.norm ka2) (MayL.norm kb2) e1 e2 (sz hx1 ka1) (sz hy1 kb1) (sz hx2 ka2) (sz hy2 kb2)
 rwa [hF] at K

def fdQ (F:Bool → List Nat → List Nat → Bool → List Nat → List Nat → (Bool × List Nat × List Nat) × Int):List Nq → Bool × List Nat × List Nat → (Bool × List Nat × List Nat) × Int
 | [],z => (z,0)
 | p :: l,z => if (F z.1 z.2.1 z.2.2 p.g p.x p.y).2 = 0 then fdQ F l (F z.1 z.2.1 z.2.2 p.g p.x p.y).1 else F z.1 z.2.1 z.2.2 p.g p.x p.y
theorem tri_setQ {w:World} {R:Nat} (h:Out w R) (v0 v1 v2:Value):Tri (((w.setCell ⟨R,0,none⟩ v0).setCell ⟨R,1,none⟩ v1).setCell ⟨R,2,none⟩ v2) R v0 v1 v2:=by
 obtain ⟨a,b,c,d⟩:=three_set w R v0 v1 v2 h.cells
 have f:∀ j,(((w.setCell ⟨R,0,none⟩ v0).setCell ⟨R,1,none⟩ v1).setCell ⟨R,2,none⟩ v2).frozen? ⟨R,j,none⟩ = w.frozen? ⟨R,j,none⟩:=fun j => by rw [World.frozen?_setCell,World.frozen?_setCell,World.frozen?_setCell]
 exact ⟨a,b,c,(f 0).trans (h.fz 0 (by decide)),(f 1).trans (h.fz 1 (by decide)),(f 2).trans (h.fz 2 (by decide)),Nat.lt_of_lt_of_le h.lt d.size⟩
structure SmX (w wr:World) (Ro Rx:Nat) (z:Nq):Prop where
 bel:Below w.heap.size w wr
 out:Out wr Ro
 tx:Tri wr Rx (.bool z.g) (.slice z.a z.n z.c) (.slice z.b z.m z.d)
 num:Sl wr z.a z.n z.c z.x
 den:Sl wr z.b z.m z.d z.y
 ox:Ok z.x
 oy:Ok z.y
 may:MayR z.g z.x z.y = true
 na:NewAt (Ro + 1) z.a
 nb:NewAt (Ro + 1) z.b
 ro:w.heap.size ≤ Ro
 rx:Ro < Rx
def foldQ (F:Bool → List Nat → List Nat → Bool → List Nat → List Nat → (Bool × List Nat × List Nat) × Int) (z:List Nat) (ps:List Nq):(Bool × List Nat × List Nat) × Int:=if mayQ ps then fdQ F ps (false,z,[1]) else ((false,[],[]),40)
theorem drop_Q {ps:List Nq} {i:Nat} {p:Nq} (h:ps[i]? = some p):ps.drop i = p :: ps.drop (i + 1):=by
 obtain ⟨hi,rfl⟩:=List.getElem?_eq_some_iff.1 h
 exact List.drop_eq_getElem_cons hi
theorem zero_may:MayR false [] [1] = true:=by decide
theorem one_may:MayR false [1] [1] = true:=by decide
structure LdY (wr wy:World) (Ry:Nat) (gy:Bool) (ay:Option Addr) (ny cy:Nat) (xy:List Nat) (by_:Option Addr) (my dy:Nat) (yy:List Nat):Prop where
 tri:Tri wy Ry (.bool gy) (.slice ay ny cy) (.slice by_ my dy)
 num:Sl wy ay ny cy xy
 den:Sl wy by_ my dy yy
 na:NewAt wr.heap.size ay
 nb:NewAt wr.heap.size by_
 bel:Below wr.heap.size wr wy
theorem ldY_new {wr wk:World} {gy:Bool} {ay by_:Option Addr} {ny cy my dy:Nat} {xy yy:List Nat} (sx:Sl wk ay ny cy xy) (sy:Sl wk by_ my dy yy) (nx:NewAt wr.heap.size ay) (nn:NewAt wr.heap.size by_) (hb:Below wr.heap.size wr wk) :
  LdY wr (wk.alloc (.cells #[.bool gy,.slice ay ny cy,.slice by_ my dy] 25)) wk.heap.size gy ay ny cy xy by_ my dy yy:=by
 have h1:Below wk.heap.size wk (wk.alloc (.cells #[.bool gy,.slice ay ny cy,.slice by_ my dy] 25)):=bAl
 exact ⟨Tri.made _ _ _ _ _,sx.below h1,sy.below h1,nx,nn,hb.trans (h1.mono hb.size)⟩
theorem ldY_old {wr wk:World} {gy:Bool} {ay by_:Option Addr} {ny cy my dy:Nat} {xy yy:List Nat} (sx:Sl wk ay ny cy xy) (sy:Sl wk by_ my dy yy) (nx:NewAt (wr.heap.size + 1) ay) (nn:NewAt (wr.heap.size + 1) by_) (hb:Below wr.heap.size wr wk) (hO:Out wk wr.heap.size) :
  LdY wr (((wk.setCell ⟨wr.heap.size,0,none⟩ (.bool gy)).setCell ⟨wr.heap.size,1,none⟩ (.slice ay ny cy)).setCell ⟨wr.heap.size,2,none⟩ (.slice by_ my dy)) wr.heap.size gy ay ny cy xy by_ my dy yy:=by
 have c4:=(three_set wk wr.heap.size (.bool gy) (.slice ay ny cy) (.slice by_ my dy) hO.cells).2.2.2
 exact ⟨tri_setQ hO _ _ _,sx.chg c4 (fun p hp _ h => by have:=nx p hp; omega),sy.chg c4 (fun p hp _ h => by have:=nn p hp; omega),fun p hp => by have:=nx p hp; omega,fun p hp => by have:=nn p hp; omega,hb.trans (c4.below hb.size (fun k hk h => by omega))⟩
theorem NewR.drewQ {w w':World} {g:Bool} {xs ys:List Nat} {v:Value} (h:NewR w w' g xs ys v):NewR w w'.drew g xs ys v:=by
 obtain ⟨a,m,c,b,k,d,e,h1,h2,h3,h4,h5⟩:=h
 exact ⟨a,m,c,b,k,d,e,h1.below (Below.refl _ _).drew,h2.below (Below.refl _ _).drew,h3,h4,h5.drew⟩
theorem Out.chgQ {S:Nat → Prop} {w w':World} {R:Nat} (h:Out w R) (k:Chg S w w') (hs:¬ S R):Out w' R :=
 ⟨fun i hi => by obtain ⟨v,hv⟩:=h.cells i hi; exact ⟨v,k.cell hs hv⟩,fun i hi => by rw [World.frozen?_of_block (w:=w) (k.block R h.lt hs)]; exact h.fz i hi,Nat.lt_of_lt_of_le h.lt k.size⟩
theorem SmX.next {w wr wy:World} {Ro Rx Ry:Nat} {z:Nq} {gy:Bool} {ay by_:Option Addr} {ny cy my dy:Nat} {xy yy:List Nat} (h:SmX w wr Ro Rx z) (hN:LdY wr wy Ry gy ay ny cy xy by_ my dy yy) (ox:Ok xy) (oy:Ok yy) (hm:MayR gy xy yy = true) :
  SmX w (((wy.setCell ⟨Rx,0,none⟩ (.bool gy)).setCell ⟨Rx,1,none⟩ (.slice ay ny cy)).setCell ⟨Rx,2,none⟩ (.slice by_ my dy)) Ro Rx ⟨gy,ay,ny,cy,xy,by_,my,dy,yy⟩:=by
 have hO:=(h.tx.keep hN.bel).out
 have c4:=(three_set wy Rx (.bool gy) (.slice ay ny cy) (.slice by_ my dy) hO.cells).2.2.2
 have hlt:=h.tx.lt
 have hr:=h.rx
 have hB:=h.bel.trans (hN.bel.mono h.bel.size)
 exact ⟨hB.trans (c4.below hB.size (fun k hk e => by have:=h.ro; omega)),(h.out.keep hN.bel).chgQ c4 (fun e => by omega),tri_setQ hO _ _ _,hN.num.chg c4 (fun p hp _ e => by have:=hN.na p hp; omega),hN.den.chg c4 (fun p hp _ e => by have:=hN.nb p hp; omega),ox,oy,hm,fun p hp => by have:=hN.na p hp; omega,fun p hp => by have:=hN.nb p hp; omega,h.ro,h.rx⟩
theorem ret_Q {w wy:World} {Ro:Nat} {gy:Bool} {ay by_:Option Addr} {ny cy my dy:Nat} {xy yy:List Nat} (hO:Out wy Ro) (hx:Sl wy ay ny cy xy) (hy:Sl wy by_ my dy yy) (na:NewAt (Ro + 1) ay) (nb:NewAt (Ro + 1) by_) (hB:Below w.heap.size w wy) (hR:w.heap.size ≤ Ro) :
  NewR w (((wy.setCell ⟨Ro,0,none⟩ (.bool gy)).setCell ⟨Ro,1,none⟩ (.slice ay ny cy)).setCell ⟨Ro,2,none⟩ (.slice by_ my dy)) gy xy yy (ratV gy ay ny cy by_ my dy):=by
 have c4:=(three_set wy Ro (.bool gy) (.slice ay ny cy) (.slice by_ my dy) hO.cells).2.2.2
 exact ⟨ay,ny,cy,by_,my,dy,rfl,hx.chg c4 (fun p hp _ e => by have:=na p hp; omega),hy.chg c4 (fun p hp _ e => by have:=nb p hp; omega),fun p hp => by have:=na p hp; omega,fun p hp => by have:=nb p hp; omega,hB.trans (c4.below hB.size (fun k hk e => by omega))⟩
theorem fdQ_no {F:Bool → List Nat → List Nat → Bool → List Nat → List Nat → (Bool × List Nat × List Nat) × Int} {p:Nq} {l:List Nq} {z:Bool × List Nat × List Nat} {r:(Bool × List Nat × List Nat) × Int} (h:F z.1 z.2.1 z.2.2 p.g p.x p.y = r) (e:r.2 ≠ 0):fdQ F (p :: l) z = r:=by
 unfold fdQ; rw [h,if_neg e]
theorem fdQ_go {F:Bool → List Nat → List Nat → Bool → List Nat → List Nat → (Bool × List Nat × List Nat) × Int} {p:Nq} {l:List Nq} {z:Bool × List Nat × List Nat} {r:(Bool × List Nat × List Nat) × Int} (h:F z.1 z.2.1 z.2.2 p.g p.x p.y = r) (e:r.2 = 0):fdQ F (p :: l) z = fdQ F l r.1:=by
 rw [fdQ,h,if_pos e]
set_option maxRecDepth 100000 in
set_option maxHeartbeats 16000000 in
theorem wSum_any (a:Option Addr) (n c:Nat) (ps:List Nq) (w:World) (h:SlQ w a n c ps) (hn:n ≤ 140737488355328) :
  Calls Tryz.prog 82 #[.slice a n c] w fun e w' => ResF w w' (foldQ AddF [] ps) e:=by
 obtain ⟨⟨⟨SG,LN,LD⟩,ER⟩,hFF⟩:∃ r,foldQ AddF [] ps = r:=⟨_,rfl⟩
 rw [hFF]
 unfold ResF
 dsimp only
 obtain ⟨wo,hwo⟩:∃ x,w.alloc (.cells #[.bool false,.slice none 0 0,.slice none 0 0] 25) = x:=⟨_,rfl⟩
 have hbo:Below w.heap.size w wo:=by rw [← hwo]; exact bAl
 have hO:=Out.made w
 rw [hwo] at hO
 have KA:=wmayAll_any a n c ps wo (h.below hbo) hn
 unfold foldQ at hFF
 cases hm:mayQ ps
 ·rw [hm] at KA hFF
  simp only [Bool.false_eq_true,if_false] at hFF
  cases hFF
  have HK:=Hd KA
  have HO:=Hd (And.intro hO hbo)
  clear KA h hm hO hbo
  go_enter Tryz.func82,Tryz.ntmps82
  go_wp2_with fail
  refine (Uh HK).mono ?_
  rintro _ w1 ⟨rfl,hb1⟩
  have hB1:=(Uh HO).2.trans (hb1.mono (Uh HO).2.size)
  have hO1:=(Uh HO).1.keep hb1
  have c4:=Hd (And.intro (three_set w1 w.heap.size (.bool false) (.slice none 0 0) (.slice none 0 0) hO1.cells) hB1)
  obtain ⟨i0,o0⟩:=hO1.cells 0 (by decide)
  obtain ⟨i1,o1⟩:=hO1.cells 1 (by decide)
  obtain ⟨i2,o2⟩:=hO1.cells 2 (by decide)
  have f0:=hO1.fz 0 (by decide)
  have f1:=hO1.fz 1 (by decide)
  have f2:=hO1.fz 2 (by decide)
  have HO1_:=Hd hO1
  clear HK HO hb1 hB1 hO1
  go_wp2_with fail
  have hO1_:=Uh HO1_
  obtain ⟨⟨t0,t1,t2,cc⟩,hB1⟩:=Uh c4
  have hR:=ret_Q (w:=w) (gy:=false) hO1_ (sl_nil _) (sl_nil _) (newAt_nil _) (newAt_nil _) hB1 (Nat.le_refl _)
  generalize ((w1.setCell ⟨w.heap.size,0,none⟩ (.bool false)).setCell ⟨w.heap.size,1,none⟩ (.slice none 0 0)).setCell ⟨w.heap.size,2,none⟩ (.slice none 0 0) = wk at *
  refine bodyPost_ret (by simp [results,Tryz.results82,go_sem,t0,t1,t2]; try rfl) rfl ?_
  exact ⟨_,rfl,hR⟩
 ·rw [hm] at KA hFF
  simp only [if_true] at hFF
  have HK:=Hd KA
  have H:=Hd h
  have HL:=Hd h.len
  have HM:=Hd hm
  have HF:=Hd hFF
  have HO:=Hd (And.intro hO hbo)
  clear KA h hm hFF hO hbo
  go_enter Tryz.func82,Tryz.ntmps82
  go_wp2_with fail
  refine (Uh HK).mono ?_
  rintro _ w1 ⟨rfl,hb1⟩
  have HB1:=Hd ((Uh HO).2.trans (hb1.mono (Uh HO).2.size))
  have HO1:=Hd ((Uh HO).1.keep hb1)
  clear HK HO hb1
  go_wp2_with fail
  have KZ:=wzero_any w1
  refine KZ.mono ?_
  clear KZ
  rintro _ w2 ⟨v,rfl,az,nz,cz,bz,mz,dz,rfl,sx,sy,nx,ny,hb⟩
  unfold ratV
  obtain ⟨w3,hw3⟩:∃ x,w2.alloc (.cells #[.bool false,.slice az nz cz,.slice bz mz dz] 25) = x:=⟨_,rfl⟩
  have h23:Below w2.heap.size w2 w3:=by rw [← hw3]; exact bAl
  have hT:Tri w3 w2.heap.size (.bool false) (.slice az nz cz) (.slice bz mz dz):=by rw [← hw3]; exact Tri.made _ _ _ _ _
  have hRo:=(Uh HO1).lt
  have HS:=Hd (show SmX w w3 w.heap.size w2.heap.size ⟨false,az,nz,cz,[],bz,mz,dz,[1]⟩ from
   ⟨((Uh HB1).trans (hb.mono (Uh HB1).size)).trans (h23.mono ((Uh HB1).trans (hb.mono (Uh HB1).size)).size),((Uh HO1).keep hb).keep h23,hT,sx.below h23,sy.below h23,(by intro x hx; simp at hx; try omega),ok_one (by decide),zero_may,(fun p hp => by have:=nx p hp; omega),(fun p hp => by have:=ny p hp; omega),Nat.le_refl _,(by have:=hb.size; omega)⟩)
  clear sx sy nx ny hb h23 hT hRo HO1 HB1
  go_wp2_with fail
  go_loopw [5,6,7] (fun iv _ _ wr => ∃ (i:Nat) (z:Nq),i ≤ n ∧ iv = .int .i64 (i:Nat) ∧ SmX w wr w.heap.size w2.heap.size z ∧ Hid (fdQ AddF (ps.drop i) (z.g,z.x,z.y) = ((SG,LN,LD),ER))) (fun iv _ _ _ => n - (intOf iv).toNat)
  case atStart => exact ⟨0,⟨false,az,nz,cz,[],bz,mz,dz,[1]⟩,Nat.zero_le _,rfl,Uh HS,Uh HF⟩
  case round =>
   clear HS HF hw3
   obtain ⟨i,z,hi,rfl,hS,HD⟩:=hrel
   by_cases hlt:i < n
   ·have hlt':(i:Int) < (n:Int):=by omega
    obtain ⟨b,off,p,rfl,hp,⟨c0,c1,c2⟩,⟨hs1,hs2⟩,o1,o2⟩:=((Uh H).below hS.bel).at' hlt
    have e0:=hS.tx.c0
    have e1:=hS.tx.c1
    have e2:=hS.tx.c2
    have hpm:=mayQ_get (Uh HM) hp
    obtain ⟨⟨⟨gy,xy,yy⟩,ey⟩,hY⟩:∃ r,AddF z.g z.x z.y p.g p.x p.y = r:=⟨_,rfl⟩
    have KP:=fun (W:World) (hb:Below wr.heap.size wr W) => wplus_F z.g p.g z.a z.b p.a p.b z.n z.c z.m z.d p.n p.c p.m p.d z.x z.y p.x p.y W (hS.num.below hb) (hS.den.below hb) (hs1.below hb) (hs2.below hb) hS.ox hS.oy o1 o2 hS.may hpm
    unfold ratV at KP
    rw [hY] at KP
    have HKP:=Hd KP
    rw [drop_Q hp] at HD
    have HS:=Hd hS
    have HY:=Hd hY
    have HP:=Hd hpm
    clear KP hS hY hs1 hs2 o1 o2 hpm hp
    have ha_0:=(ck ((Below.refl wr.heap.size wr).drew.alloc (Nat.le_refl _) (.cells #[.bool false,.slice none 0 0,.slice none 0 0] 25)) e0)
    have ha_1:=(ck ((Below.refl wr.heap.size wr).drew.alloc (Nat.le_refl _) (.cells #[.bool false,.slice none 0 0,.slice none 0 0] 25)) e1)
    have ha_2:=(ck ((Below.refl wr.heap.size wr).drew.alloc (Nat.le_refl _) (.cells #[.bool false,.slice none 0 0,.slice none 0 0] 25)) e2)
    have ha_3:=(ck ((Below.refl wr.heap.size wr).drew.alloc (Nat.le_refl _) (.cells #[.bool false,.slice none 0 0,.slice none 0 0] 25)) c0)
    have ha_4:=(ck ((Below.refl wr.heap.size wr).drew.alloc (Nat.le_refl _) (.cells #[.bool false,.slice none 0 0,.slice none 0 0] 25)) c1)
    have ha_5:=(ck ((Below.refl wr.heap.size wr).drew.alloc (Nat.le_refl _) (.cells #[.bool false,.slice none 0 0,.slice none 0 0] 25)) c2)
    have h_0:=(ck (Below.refl wr.heap.size wr).drew e0)
    have h_1:=(ck (Below.refl wr.heap.size wr).drew e1)
    have h_2:=(ck (Below.refl wr.heap.size wr).drew e2)
    have h_3:=(ck (Below.refl wr.heap.size wr).drew c0)
    have h_4:=(ck (Below.refl wr.heap.size wr).drew c1)
    have h_5:=(ck (Below.refl wr.heap.size wr).drew c2)
    go_wp2_with fail
    go_region_held3 (fun w' => w'.cell? ⟨w2.heap.size,0,none⟩ = some (.bool z.g) ∧ w'.cell? ⟨w2.heap.size,1,none⟩ = some (.slice z.a z.n z.c) ∧ w'.cell? ⟨w2.heap.size,2,none⟩ = some (.slice z.b z.m z.d) ∧ w'.cell? ⟨b,off + i * 3,none⟩ = some (.bool p.g) ∧ w'.cell? ⟨b,off + i * 3 + 1,none⟩ = some (.slice p.a p.n p.c) ∧ w'.cell? ⟨b,off + i * 3 + 2,none⟩ = some (.slice p.b p.m p.d)) (first | (with_reducible exact ⟨k_0,k_1,k_2,k_3,k_4,k_5⟩) | (with_reducible exact ⟨ka_0,ka_1,ka_2,ka_3,ka_4,ka_5⟩) | (with_reducible exact ⟨kf_0,kf_1,kf_2,kf_3,kf_4,kf_5⟩) | (with_reducible exact ⟨kn_0,kn_1,kn_2,kn_3,kn_4,kn_5⟩) | (exact ⟨h_0,h_1,h_2,h_3,h_4,h_5⟩) | (exact ⟨ha_0,ha_1,ha_2,ha_3,ha_4,ha_5⟩))
     (first
      | (go_at_call 128; (first
        | ((fail_if_success (with_reducible refine (show Calls _ _ _ (World.alloc _ _) _ from ?_))); refine (Uh HKP _ (Below.refl _ _).drew).mono ?_; rintro _ wk ⟨v,rfl,ay,ny,cy,by_,my,dy,rfl,sx,sy,nx,nn,hb⟩; (try dsimp only at sx sy); unfold ratV; have hbk:Below wr.heap.size wr wk:=(Below.refl _ _).drew.trans hb; have k_0:=(ck hbk e0); have k_1:=(ck hbk e1); have k_2:=(ck hbk e2); have k_3:=(ck hbk c0); have k_4:=(ck hbk c1); have k_5:=(ck hbk c2); have ka_0:=(ck ((Below.refl wk.heap.size wk).alloc (Nat.le_refl _) (.cells #[.bool false,.slice none 0 0,.slice none 0 0] 25)) k_0); have ka_1:=(ck ((Below.refl wk.heap.size wk).alloc (Nat.le_refl _) (.cells #[.bool false,.slice none 0 0,.slice none 0 0] 25)) k_1); have ka_2:=(ck ((Below.refl wk.heap.size wk).alloc (Nat.le_refl _) (.cells #[.bool false,.slice none 0 0,.slice none 0 0] 25)) k_2); have ka_3:=(ck ((Below.refl wk.heap.size wk).alloc (Nat.le_refl _) (.cells #[.bool false,.slice none 0 0,.slice none 0 0] 25)) k_3); have ka_4:=(ck ((Below.refl wk.heap.size wk).alloc (Nat.le_refl _) (.cells #[.bool false,.slice none 0 0,.slice none 0 0] 25)) k_4); have ka_5:=(ck ((Below.refl wk.heap.size wk).alloc (Nat.le_refl _) (.cells #[.bool false,.slice none 0 0,.slice none 0 0] 25)) k_5); have kf_0:=(ck ((Below.refl wk.heap.size wk).alloc (Nat.le_refl _) (.cells #[.bool gy,.slice ay ny cy,.slice by_ my dy] 25)) k_0); have kf_1:=(ck ((Below.refl wk.heap.size wk).alloc (Nat.le_refl _) (.cells #[.bool gy,.slice ay ny cy,.slice by_ my dy] 25)) k_1); have kf_2:=(ck ((Below.refl wk.heap.size wk).alloc (Nat.le_refl _) (.cells #[.bool gy,.slice ay ny cy,.slice by_ my dy] 25)) k_2); have kf_3:=(ck ((Below.refl wk.heap.size wk).alloc (Nat.le_refl _) (.cells #[.bool gy,.slice ay ny cy,.slice by_ my dy] 25)) k_3); have kf_4:=(ck ((Below.refl wk.heap.size wk).alloc (Nat.le_refl _) (.cells #[.bool gy,.slice ay ny cy,.slice by_ my dy] 25)) k_4); have kf_5:=(ck ((Below.refl wk.heap.size wk).alloc (Nat.le_refl _) (.cells #[.bool gy,.slice ay ny cy,.slice by_ my dy] 25)) k_5); have HN:=Hd (ldY_new (wr:=wr) (gy:=gy) sx sy nx nn hbk); have HKS:=Hd (show wr.heap.size ≤ wk.heap.size from hbk.size); clear sx sy nx nn hb hbk)
        | (refine (Uh HKP _ ((Below.refl _ _).drew.alloc (Nat.le_refl _) _)).mono ?_; rintro _ wk ⟨v,rfl,ay,ny,cy,by_,my,dy,rfl,sx,sy,nx,nn,hb⟩; (try dsimp only at sx sy); unfold ratV; have hO:Out wk wr.heap.size:=(Out.made wr.drew).keep hb; have hbk:Below wr.heap.size wr wk:=((Below.refl wr.heap.size wr).drew.alloc (Nat.le_refl _) _).trans (hb.mono (by simp)); have k_0:=(ck hbk e0); have k_1:=(ck hbk e1); have k_2:=(ck hbk e2); have k_3:=(ck hbk c0); have k_4:=(ck hbk c1); have k_5:=(ck hbk c2); have c4:=(three_set wk wr.heap.size (.bool gy) (.slice ay ny cy) (.slice by_ my dy) hO.cells).2.2.2; have kn_0:=c4.cell (Nat.ne_of_lt (World.block_lt_of_cell? _ _ e0)) k_0; have kn_1:=c4.cell (Nat.ne_of_lt (World.block_lt_of_cell? _ _ e1)) k_1; have kn_2:=c4.cell (Nat.ne_of_lt (World.block_lt_of_cell? _ _ e2)) k_2; have kn_3:=c4.cell (Nat.ne_of_lt (World.block_lt_of_cell? _ _ c0)) k_3; have kn_4:=c4.cell (Nat.ne_of_lt (World.block_lt_of_cell? _ _ c1)) k_4; have kn_5:=c4.cell (Nat.ne_of_lt (World.block_lt_of_cell? _ _ c2)) k_5; clear c4; (obtain ⟨i0,q0⟩:=hO.cells 0 (by decide)); (obtain ⟨i1,q1⟩:=hO.cells 1 (by decide)); (obtain ⟨i2,q2⟩:=hO.cells 2 (by decide)); have f0:=hO.fz 0 (by decide); have f1:=hO.fz 1 (by decide); have f2:=hO.fz 2 (by decide); have HN:=Hd (ldY_old (wr:=wr) (gy:=gy) sx sy (fun p hp => by have:=nx p hp; simp at this; omega) (fun p hp => by have:=nn p hp; simp at this; omega) hbk hO); clear sx sy nx nn hb hbk hO))))
    all_goals (first
     | (clear q0 q1 q2 f0 f1 f2; generalize ((wk.setCell ⟨wr.heap.size,0,none⟩ (.bool gy)).setCell ⟨wr.heap.size,1,none⟩ (.slice ay ny cy)).setCell ⟨wr.heap.size,2,none⟩ (.slice by_ my dy) = wy at *; have HRy:=Hd (show wr.heap.size ≤ wr.heap.size from Nat.le_refl _); generalize hRy:wr.heap.size = Ry at HN ⊢; have HRy:=Hd (show wr.heap.size ≤ Ry from hRy ▸ Nat.le_refl _))
     | (generalize wk.alloc (.cells #[.bool gy,.slice ay ny cy,.slice by_ my dy] 25) = wy at *; have HRz:=Hd (Uh HKS); generalize hRy:wk.heap.size = Ry at HN ⊢; have HRy:=Hd (show wr.heap.size ≤ Ry from hRy ▸ Uh HRz)))
    all_goals
     have hN:=Uh HN
     have hS:=Uh HS
     have t0:=hN.tri.c0
     have t1:=hN.tri.c1
     have t2:=hN.tri.c2
     have hlo:=hS.out.lt
     have hlx:=hS.tx.lt
     have hrx:=hS.rx
     have hsz:=hN.bel.size
     have HD0:=HD
     by_cases hz:ey = 0
     ·have hOx:=(hS.tx.keep hN.bel).out
      obtain ⟨j0,u0⟩:=hOx.cells 0 (by decide)
      obtain ⟨j1,u1⟩:=hOx.cells 1 (by decide)
      obtain ⟨j2,u2_⟩:=hOx.cells 2 (by decide)
      have v0:=hOx.fz 0 (by decide)
      have v1:=hOx.fz 1 (by decide)
      have v2:=hOx.fz 2 (by decide)
      have hD2:=(fdQ_go (l:=ps.drop (i + 1)) (z:=(z.g,z.x,z.y)) (Uh HY) hz).symm.trans (Uh HD)
      have hl:=addF_lists (g1:=z.g) (x1:=z.x) (y1:=z.y) (g2:=p.g) (x2:=p.x) (y2:=p.y)
      obtain ⟨g_,N_,D_,eq_,mm_,_⟩:=addF_ok hS.may (Uh HP) (by rw [Uh HY]; exact hz)
      rw [Uh HY] at hl eq_
      have hmy:MayR gy xy yy = true:=by cases eq_; exact mm_
      have HX:=Hd (And.intro (hS.next hN hl.1 hl.2 hmy) hD2)
      have hz2:(ey != 0) = false:=by simpa using hz
      clear hN hS hOx hl eq_ mm_ hmy hD2 hz HD HD0 HP HY HKP hRy
      go_wp2_with fail
      exact ⟨⟨i + 1,⟨gy,ay,ny,cy,xy,by_,my,dy,yy⟩,by omega,by go_num,(Uh HX).1,(Uh HX).2⟩,by simp [intOf]; omega⟩
     ·have hOo:=hS.out.keep hN.bel
      obtain ⟨j0,u0⟩:=hOo.cells 0 (by decide)
      obtain ⟨j1,u1⟩:=hOo.cells 1 (by decide)
      obtain ⟨j2,u2_⟩:=hOo.cells 2 (by decide)
      have v0:=hOo.fz 0 (by decide)
      have v1:=hOo.fz 1 (by decide)
      have v2:=hOo.fz 2 (by decide)
      have hD2:=(fdQ_no (l:=ps.drop (i + 1)) (z:=(z.g,z.x,z.y)) (Uh HY) hz).symm.trans (Uh HD)
      simp only [Prod.mk.injEq] at hD2
      obtain ⟨⟨rfl,rfl,rfl⟩,rfl⟩:=hD2
      have HX:=Hd (And.intro (ret_Q (w:=w) (gy:=gy) hOo hN.num hN.den (fun p hp => by have:=hN.na p hp; omega) (fun p hp => by have:=hN.nb p hp; omega) (hS.bel.trans (hN.bel.mono hS.bel.size)) hS.ro) (three_set wy w.heap.size (.bool gy) (.slice ay ny cy) (.slice by_ my dy) hOo.cells))
      have hz2:(ey != 0) = true:=by simpa using hz
      have hr1:Ry ≠ w.heap.size:=by have:=Uh HRy; omega
      have hr2:=hr1.symm
      clear hN hS hOo hz HD HD0 HP HY HKP
      go_wp2_with fail
      try go_region
      all_goals
       try go_wp2_with fail
       obtain ⟨hR,t0_,t1_,t2_,cc⟩:=Uh HX
       generalize ((wy.setCell ⟨w.heap.size,0,none⟩ (.bool gy)).setCell ⟨w.heap.size,1,none⟩ (.slice ay ny cy)).setCell ⟨w.heap.size,2,none⟩ (.slice by_ my dy) = wq at *
       refine bodyPost_ret (by simp [results,Tryz.results82,go_sem,t0_,t1_,t2_]; try rfl) rfl ?_
       first | exact ⟨_,rfl,hR⟩ | exact ⟨_,rfl,hR.drewQ⟩
   ·obtain rfl:i = n:=by omega
    have hlt':¬ (i:Int) < (i:Int):=by omega
    have hd:ps.drop i = []:=List.drop_eq_nil_of_le (by rw [Uh HL]; exact Nat.le_refl _)
    rw [hd] at HD
    have hD2:((z.g,z.x,z.y),(0:Int)) = ((SG,LN,LD),ER):=Uh HD
    simp only [Prod.mk.injEq] at hD2
    obtain ⟨⟨rfl,rfl,rfl⟩,rfl⟩:=hD2
    have e0:=hS.tx.c0
    have e1:=hS.tx.c1
    have e2:=hS.tx.c2
    have hOo:=hS.out
    obtain ⟨j0,u0⟩:=hOo.cells 0 (by decide)
    obtain ⟨j1,u1⟩:=hOo.cells 1 (by decide)
    obtain ⟨j2,u2_⟩:=hOo.cells 2 (by decide)
    have v0:=hOo.fz 0 (by decide)
    have v1:=hOo.fz 1 (by decide)
    have v2:=hOo.fz 2 (by decide)
    have hrx:=hS.rx
    have hr1:w2.heap.size ≠ w.heap.size:=by omega
    have hr2:=hr1.symm
    have HX:=Hd (And.intro (ret_Q (w:=w) (gy:=z.g) hOo hS.num hS.den hS.na hS.nb hS.bel hS.ro) (three_set wr w.heap.size (.bool z.g) (.slice z.a z.n z.c) (.slice z.b z.m z.d) hOo.cells))
    clear hS hOo HD hd hrx
    go_wp2_with fail
    try go_region
    all_goals
     try go_wp2_with fail
     obtain ⟨hR,t0_,t1_,t2_,cc⟩:=Uh HX
     generalize ((wr.setCell ⟨w.heap.size,0,none⟩ (.bool z.g)).setCell ⟨w.heap.size,1,none⟩ (.slice z.a z.n z.c)).setCell ⟨w.heap.size,2,none⟩ (.slice z.b z.m z.d) = wq at *
     refine bodyPost_ret (by simp [results,Tryz.results82,go_sem,t0_,t1_,t2_]; try rfl) rfl ?_
     first | exact ⟨_,rfl,hR⟩ | exact ⟨_,rfl,hR.drewQ⟩
end Go.Proofs.YtmmeiebbnjjijaaGreatDoor
