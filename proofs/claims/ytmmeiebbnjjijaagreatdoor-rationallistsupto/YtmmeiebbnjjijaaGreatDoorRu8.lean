/- Ru8 -/
import Derived.Test.YtmmeiebbnjjijaaGreatDoorRu3
import Derived.Test.YtmmeiebbnjjijaaGreatDoorWrf
namespace Go.Proofs.YtmmeiebbnjjijaaGreatDoor
open Go.RowKit Go.Deep
set_option linter.unusedVariables false
def dtQ:List Nq → List Nq → Bool × List Nat × List Nat → (Bool × List Nat × List Nat) × Int
 | p :: l,q :: k,z => if (MulF p.g p.x p.y q.g q.x q.y).2 = 0 then (if (AddF z.1 z.2.1 z.2.2 (MulF p.g p.x p.y q.g q.x q.y).1.1 (MulF p.g p.x p.y q.g q.x q.y).1.2.1 (MulF p.g p.x p.y q.g q.x q.y).1.2.2).2 = 0 then dtQ l k (AddF z.1 z.2.1 z.2.2 (MulF p.g p.x p.y q.g q.x q.y).1.1 (MulF p.g p.x p.y q.g q.x q.y).1.2.1 (MulF p.g p.x p.y q.g q.x q.y).1.2.2).1 else AddF z.1 z.2.1 z.2.2 (MulF p.g p.x p.y q.g q.x q.y).1.1 (MulF p.g p.x p.y q.g q.x q.y).1.2.1 (MulF p.g p.x p.y q.g q.x q.y).1.2.2) else MulF p.g p.x p.y q.g q.x q.y
 | _,_,z => (z,0)
def dotQ (ps qs:List Nq):(Bool × List Nat × List Nat) × Int:=if mayQ ps && mayQ qs then (if ps.length = qs.length then dtQ ps qs (false,[],[1]) else ((false,[],[]),1)) else ((false,[],[]),40)
theorem dtQ_no1 {p q:Nq} {l k:List Nq} {z:Bool × List Nat × List Nat} {m:(Bool × List Nat × List Nat) × Int} (h:MulF p.g p.x p.y q.g q.x q.y = m) (e:m.2 ≠ 0):dtQ (p :: l) (q :: k) z = m:=by
 rw [dtQ,h,if_neg e]
theorem dtQ_no2 {p q:Nq} {l k:List Nq} {z:Bool × List Nat × List Nat} {m s:(Bool × List Nat × List Nat) × Int} (h:MulF p.g p.x p.y q.g q.x q.y = m) (e:m.2 = 0) (h2:AddF z.1 z.2.1 z.2.2 m.1.1 m.1.2.1 m.1.2.2 = s) (e2:s.2 ≠ 0):dtQ (p :: l) (q :: k) z = s:=by
 rw [dtQ,h,if_pos e,h2,if_neg e2]
theorem dtQ_go {p q:Nq} {l k:List Nq} {z:Bool × List Nat × List Nat} {m s:(Bool × List Nat × List Nat) × Int} (h:MulF p.g p.x p.y q.g q.x q.y = m) (e:m.2 = 0) (h2:AddF z.1 z.2.1 z.2.2 m.1.1 m.1.2.1 m.1.2.2 = s) (e2:s.2 = 0):dtQ (p :: l) (q :: k) z = dtQ l k s.1:=by
 rw [dtQ,h,if_pos e,h2,if_pos e2]
theorem dtQ_nil {k:List Nq} {z:Bool × List Nat × List Nat}:dtQ [] k z = (z,0):=by
 cases k <;> rfl
theorem SmX.keepQ {w wr wy:World} {Ro Rx:Nat} {z:Nq} (h:SmX w wr Ro Rx z) (hb:Below wr.heap.size wr wy):SmX w wy Ro Rx z :=
 ⟨h.bel.trans (hb.mono h.bel.size),h.out.keep hb,h.tx.keep hb,h.num.below hb,h.den.below hb,h.ox,h.oy,h.may,h.na,h.nb,h.ro,h.rx⟩
theorem SmX.put {w wr wk:World} {Ro Rx:Nat} {z:Nq} {gy:Bool} {ay by_:Option Addr} {ny cy my dy:Nat} {xy yy:List Nat} (h:SmX w wr Ro Rx z) (hb:Below wr.heap.size wr wk) (hx:Sl wk ay ny cy xy) (hy:Sl wk by_ my dy yy) (nx:NewAt wr.heap.size ay) (nn:NewAt wr.heap.size by_) :
  Tri (((wk.setCell ⟨Rx,0,none⟩ (.bool gy)).setCell ⟨Rx,1,none⟩ (.slice ay ny cy)).setCell ⟨Rx,2,none⟩ (.slice by_ my dy)) Rx (.bool gy) (.slice ay ny cy) (.slice by_ my dy) ∧
  Out (((wk.setCell ⟨Rx,0,none⟩ (.bool gy)).setCell ⟨Rx,1,none⟩ (.slice ay ny cy)).setCell ⟨Rx,2,none⟩ (.slice by_ my dy)) Ro ∧
  Sl (((wk.setCell ⟨Rx,0,none⟩ (.bool gy)).setCell ⟨Rx,1,none⟩ (.slice ay ny cy)).setCell ⟨Rx,2,none⟩ (.slice by_ my dy)) ay ny cy xy ∧
  Sl (((wk.setCell ⟨Rx,0,none⟩ (.bool gy)).setCell ⟨Rx,1,none⟩ (.slice ay ny cy)).setCell ⟨Rx,2,none⟩ (.slice by_ my dy)) by_ my dy yy ∧
  Below w.heap.size w (((wk.setCell ⟨Rx,0,none⟩ (.bool gy)).setCell ⟨Rx,1,none⟩ (.slice ay ny cy)).setCell ⟨Rx,2,none⟩ (.slice by_ my dy)) ∧ NewAt (Ro + 1) ay ∧ NewAt (Ro + 1) by_:=by
 have hO:=(h.tx.keep hb).out
 have c4:=(three_set wk Rx (.bool gy) (.slice ay ny cy) (.slice by_ my dy) hO.cells).2.2.2
 have hlt:=h.tx.lt
 have hr:=h.rx
 have hB:=h.bel.trans (hb.mono h.bel.size)
 exact ⟨tri_setQ hO _ _ _,(h.out.keep hb).chgQ c4 (fun e => by omega),hx.chg c4 (fun p hp _ e => by have:=nx p hp; omega),hy.chg c4 (fun p hp _ e => by have:=nn p hp; omega),hB.trans (c4.below hB.size (fun k hk e => by have:=h.ro; omega)),fun p hp => by have:=nx p hp; omega,fun p hp => by have:=nn p hp; omega⟩
set_option maxRecDepth 100000 in
set_option maxHeartbeats 32000000 in
theorem wDot_yes (a:Option Addr) (n c:Nat) (ps:List Nq) (a':Option Addr) (c':Nat) (qs:List Nq) (w:World) (h:SlQ w a n c ps) (h':SlQ w a' n c' qs) (hn:n ≤ 140737488355328) (hm:mayQ ps = true) (hm':mayQ qs = true) :
  Calls Tryz.prog 86 #[.slice a n c,.slice a' n c'] w fun e w' => ResF w w' (dtQ ps qs (false,[],[1])) e:=by
 obtain ⟨⟨⟨SG,LN,LD⟩,ER⟩,hFF⟩:∃ r,dtQ ps qs (false,[],[1]) = r:=⟨_,rfl⟩
 rw [hFF]
 unfold ResF
 dsimp only
 obtain ⟨wo,hwo⟩:∃ x,w.alloc (.cells #[.bool false,.slice none 0 0,.slice none 0 0] 25) = x:=⟨_,rfl⟩
 have hbo:Below w.heap.size w wo:=by rw [← hwo]; exact bAl
 have hO:=Out.made w
 rw [hwo] at hO
 have KA:=wmayAll_any a n c ps wo (h.below hbo) hn
 have KB:=fun (W:World) (hb:Below wo.heap.size wo W) => wmayAll_any a' n c' qs W ((h'.below hbo).below hb) hn
 rw [hm] at KA
 rw [hm'] at KB
 have HK:=Hd KA
 have HKB:=Hd KB
 have H:=Hd h
 have H':=Hd h'
 have HL:=Hd h.len
 have HM:=Hd hm
 have HM':=Hd hm'
 have HF:=Hd hFF
 have HO:=Hd (And.intro hO hbo)
 clear KA KB h h' hm hm' hFF hO hbo
 go_enter Tryz.func86,Tryz.ntmps86
 go_wp2_with fail
 refine (Uh HK).mono ?_
 rintro _ wa ⟨rfl,hba⟩
 have HBA:=Hd hba
 clear HK hba
 go_wp2_with fail
 refine (Uh HKB wa (Uh HBA)).mono ?_
 rintro _ w1 ⟨rfl,hb1⟩
 have hb01:=(Uh HBA).trans (hb1.mono (Uh HBA).size)
 have HB1:=Hd ((Uh HO).2.trans (hb01.mono (Uh HO).2.size))
 have HO1:=Hd ((Uh HO).1.keep hb01)
 clear HKB HO hb1 HBA hb01
 go_wp2_with fail
 have KZ:=wzero_any w1
 refine KZ.mono ?_
 clear KZ
 rintro _ w2 ⟨v,rfl,az,nz,cz,bz,mz,dz,rfl,sx,sy,nx,ny,hb⟩
 unfold ratV
 obtain ⟨w3,hw3⟩:∃ x,w2.alloc (.cells #[.bool false,.slice az nz cz,.slice bz mz dz] 25) = x:=⟨_,rfl⟩
 have h23:Below w2.heap.size w2 w3:=by rw [← hw3]; exact bAl
 have hT:Tri w3 w2.heap.size (.bool false) (.slice az nz cz) (.slice bz mz dz):=by rw [← hw3]; exact Tri.made _ _ _ _ _
 have hRo:=(Uh HO1).lt
 have HS:=Hd (show SmX w w3 w.heap.size w2.heap.size ⟨false,az,nz,cz,[],bz,mz,dz,[1]⟩ from
  ⟨((Uh HB1).trans (hb.mono (Uh HB1).size)).trans (h23.mono ((Uh HB1).trans (hb.mono (Uh HB1).size)).size),((Uh HO1).keep hb).keep h23,hT,sx.below h23,sy.below h23,(by intro x hx; simp at hx),ok_one (by decide),zero_may,(fun p hp => by have:=nx p hp; omega),(fun p hp => by have:=ny p hp; omega),Nat.le_refl _,(by have:=hb.size; omega)⟩)
 clear sx sy nx ny hb h23 hT hRo HO1 HB1
 go_wp2_with fail
 go_loopw [7,8,9] (fun iv _ _ wr => ∃ (i:Nat) (z:Nq),i ≤ n ∧ iv = .int .i64 (i:Nat) ∧ SmX w wr w.heap.size w2.heap.size z ∧ Hid (dtQ (ps.drop i) (qs.drop i) (z.g,z.x,z.y) = ((SG,LN,LD),ER))) (fun iv _ _ _ => n - (intOf iv).toNat)
 case atStart => exact ⟨0,⟨false,az,nz,cz,[],bz,mz,dz,[1]⟩,Nat.zero_le _,rfl,Uh HS,Uh HF⟩
 case round =>
  clear HS HF hw3
  obtain ⟨i,z,hi,rfl,hS,HD⟩:=hrel
  by_cases hlt:i < n
  ·have hlt':(i:Int) < (n:Int):=by omega
   obtain ⟨b,off,p,rfl,hp,⟨c0,c1,c2⟩,⟨hs1,hs2⟩,o1,o2⟩:=((Uh H).below hS.bel).at' hlt
   obtain ⟨b2,off2,q,rfl,hq,⟨d0,d1,d2⟩,⟨ht1,ht2⟩,o3,o4⟩:=((Uh H').below hS.bel).at' hlt
   have hpm:=mayQ_get (Uh HM) hp
   have hqm:=mayQ_get (Uh HM') hq
   obtain ⟨⟨⟨gy,xy,yy⟩,ey⟩,hY⟩:∃ r,MulF p.g p.x p.y q.g q.x q.y = r:=⟨_,rfl⟩
   have KP:=fun (W:World) (hb:Below wr.heap.size wr W) => wMul_any p.g q.g p.a p.b q.a q.b p.n p.c p.m p.d q.n q.c q.m q.d p.x p.y q.x q.y W (hs1.below hb) (hs2.below hb) (ht1.below hb) (ht2.below hb) o1 o2 o3 o4
   unfold ratV at KP
   rw [hY] at KP
   have HKP:=Hd KP
   rw [drop_Q hp,drop_Q hq] at HD
   have HS:=Hd hS
   have HY:=Hd hY
   have HP:=Hd (And.intro hpm hqm)
   clear KP hS hY hs1 hs2 ht1 ht2 o1 o2 o3 o4 hpm hqm hp hq
   have ha_0:=(ck ((Below.refl wr.heap.size wr).drew.alloc (Nat.le_refl _) (.cells #[.bool false,.slice none 0 0,.slice none 0 0] 25)) c0)
   have ha_1:=(ck ((Below.refl wr.heap.size wr).drew.alloc (Nat.le_refl _) (.cells #[.bool false,.slice none 0 0,.slice none 0 0] 25)) c1)
   have ha_2:=(ck ((Below.refl wr.heap.size wr).drew.alloc (Nat.le_refl _) (.cells #[.bool false,.slice none 0 0,.slice none 0 0] 25)) c2)
   have ha_3:=(ck ((Below.refl wr.heap.size wr).drew.alloc (Nat.le_refl _) (.cells #[.bool false,.slice none 0 0,.slice none 0 0] 25)) d0)
   have ha_4:=(ck ((Below.refl wr.heap.size wr).drew.alloc (Nat.le_refl _) (.cells #[.bool false,.slice none 0 0,.slice none 0 0] 25)) d1)
   have ha_5:=(ck ((Below.refl wr.heap.size wr).drew.alloc (Nat.le_refl _) (.cells #[.bool false,.slice none 0 0,.slice none 0 0] 25)) d2)
   have h_0:=(ck (Below.refl wr.heap.size wr).drew c0)
   have h_1:=(ck (Below.refl wr.heap.size wr).drew c1)
   have h_2:=(ck (Below.refl wr.heap.size wr).drew c2)
   have h_3:=(ck (Below.refl wr.heap.size wr).drew d0)
   have h_4:=(ck (Below.refl wr.heap.size wr).drew d1)
   have h_5:=(ck (Below.refl wr.heap.size wr).drew d2)
   go_wp2_with fail
   go_region_held3 (fun w' => w'.cell? ⟨b,off + i * 3,none⟩ = some (.bool p.g) ∧ w'.cell? ⟨b,off + i * 3 + 1,none⟩ = some (.slice p.a p.n p.c) ∧ w'.cell? ⟨b,off + i * 3 + 2,none⟩ = some (.slice p.b p.m p.d) ∧ w'.cell? ⟨b2,off2 + i * 3,none⟩ = some (.bool q.g) ∧ w'.cell? ⟨b2,off2 + i * 3 + 1,none⟩ = some (.slice q.a q.n q.c) ∧ w'.cell? ⟨b2,off2 + i * 3 + 2,none⟩ = some (.slice q.b q.m q.d)) (first | (with_reducible exact ⟨k_0,k_1,k_2,k_3,k_4,k_5⟩) | (with_reducible exact ⟨ka_0,ka_1,ka_2,ka_3,ka_4,ka_5⟩) | (with_reducible exact ⟨kf_0,kf_1,kf_2,kf_3,kf_4,kf_5⟩) | (with_reducible exact ⟨kn_0,kn_1,kn_2,kn_3,kn_4,kn_5⟩) | (exact ⟨h_0,h_1,h_2,h_3,h_4,h_5⟩) | (exact ⟨ha_0,ha_1,ha_2,ha_3,ha_4,ha_5⟩))
    (first
     | (go_at_call 130; (first
       | ((fail_if_success (with_reducible refine (show Calls _ _ _ (World.alloc _ _) _ from ?_))); refine (Uh HKP _ (Below.refl _ _).drew).mono ?_; rintro _ wk ⟨v,rfl,ay,ny,cy,by_,my,dy,rfl,sx,sy,nx,nn,hb⟩; (try dsimp only at sx sy); unfold ratV; have hbk:Below wr.heap.size wr wk:=(Below.refl _ _).drew.trans hb; have k_0:=(ck hbk c0); have k_1:=(ck hbk c1); have k_2:=(ck hbk c2); have k_3:=(ck hbk d0); have k_4:=(ck hbk d1); have k_5:=(ck hbk d2); have ka_0:=(ck ((Below.refl wk.heap.size wk).alloc (Nat.le_refl _) (.cells #[.bool false,.slice none 0 0,.slice none 0 0] 25)) k_0); have ka_1:=(ck ((Below.refl wk.heap.size wk).alloc (Nat.le_refl _) (.cells #[.bool false,.slice none 0 0,.slice none 0 0] 25)) k_1); have ka_2:=(ck ((Below.refl wk.heap.size wk).alloc (Nat.le_refl _) (.cells #[.bool false,.slice none 0 0,.slice none 0 0] 25)) k_2); have ka_3:=(ck ((Below.refl wk.heap.size wk).alloc (Nat.le_refl _) (.cells #[.bool false,.slice none 0 0,.slice none 0 0] 25)) k_3); have ka_4:=(ck ((Below.refl wk.heap.size wk).alloc (Nat.le_refl _) (.cells #[.bool false,.slice none 0 0,.slice none 0 0] 25)) k_4); have ka_5:=(ck ((Below.refl wk.heap.size wk).alloc (Nat.le_refl _) (.cells #[.bool false,.slice none 0 0,.slice none 0 0] 25)) k_5); have kf_0:=(ck ((Below.refl wk.heap.size wk).alloc (Nat.le_refl _) (.cells #[.bool gy,.slice ay ny cy,.slice by_ my dy] 25)) k_0); have kf_1:=(ck ((Below.refl wk.heap.size wk).alloc (Nat.le_refl _) (.cells #[.bool gy,.slice ay ny cy,.slice by_ my dy] 25)) k_1); have kf_2:=(ck ((Below.refl wk.heap.size wk).alloc (Nat.le_refl _) (.cells #[.bool gy,.slice ay ny cy,.slice by_ my dy] 25)) k_2); have kf_3:=(ck ((Below.refl wk.heap.size wk).alloc (Nat.le_refl _) (.cells #[.bool gy,.slice ay ny cy,.slice by_ my dy] 25)) k_3); have kf_4:=(ck ((Below.refl wk.heap.size wk).alloc (Nat.le_refl _) (.cells #[.bool gy,.slice ay ny cy,.slice by_ my dy] 25)) k_4); have kf_5:=(ck ((Below.refl wk.heap.size wk).alloc (Nat.le_refl _) (.cells #[.bool gy,.slice ay ny cy,.slice by_ my dy] 25)) k_5); have HN:=Hd (ldY_new (wr:=wr) (gy:=gy) sx sy nx nn hbk); have HKS:=Hd (show wr.heap.size ≤ wk.heap.size from hbk.size); clear sx sy nx nn hb hbk)
       | (refine (Uh HKP _ ((Below.refl _ _).drew.alloc (Nat.le_refl _) _)).mono ?_; rintro _ wk ⟨v,rfl,ay,ny,cy,by_,my,dy,rfl,sx,sy,nx,nn,hb⟩; (try dsimp only at sx sy); unfold ratV; have hO:Out wk wr.heap.size:=(Out.made wr.drew).keep hb; have hbk:Below wr.heap.size wr wk:=((Below.refl wr.heap.size wr).drew.alloc (Nat.le_refl _) _).trans (hb.mono (by simp)); have k_0:=(ck hbk c0); have k_1:=(ck hbk c1); have k_2:=(ck hbk c2); have k_3:=(ck hbk d0); have k_4:=(ck hbk d1); have k_5:=(ck hbk d2); have c4:=(three_set wk wr.heap.size (.bool gy) (.slice ay ny cy) (.slice by_ my dy) hO.cells).2.2.2; have kn_0:=c4.cell (Nat.ne_of_lt (World.block_lt_of_cell? _ _ c0)) k_0; have kn_1:=c4.cell (Nat.ne_of_lt (World.block_lt_of_cell? _ _ c1)) k_1; have kn_2:=c4.cell (Nat.ne_of_lt (World.block_lt_of_cell? _ _ c2)) k_2; have kn_3:=c4.cell (Nat.ne_of_lt (World.block_lt_of_cell? _ _ d0)) k_3; have kn_4:=c4.cell (Nat.ne_of_lt (World.block_lt_of_cell? _ _ d1)) k_4; have kn_5:=c4.cell (Nat.ne_of_lt (World.block_lt_of_cell? _ _ d2)) k_5; clear c4; (obtain ⟨i0,q0⟩:=hO.cells 0 (by decide)); (obtain ⟨i1,q1⟩:=hO.cells 1 (by decide)); (obtain ⟨i2,q2⟩:=hO.cells 2 (by decide)); have f0:=hO.fz 0 (by decide); have f1:=hO.fz 1 (by decide); have f2:=hO.fz 2 (by decide); have HN:=Hd (ldY_old (wr:=wr) (gy:=gy) sx sy (fun p hp => by have:=nx p hp; simp at this; omega) (fun p hp => by have:=nn p hp; simp at this; omega) hbk hO); clear sx sy nx nn hb hbk hO))))
   all_goals (first
    | (clear q0 q1 q2 f0 f1 f2; generalize ((wk.setCell ⟨wr.heap.size,0,none⟩ (.bool gy)).setCell ⟨wr.heap.size,1,none⟩ (.slice ay ny cy)).setCell ⟨wr.heap.size,2,none⟩ (.slice by_ my dy) = wy at *; generalize hRy:wr.heap.size = Ry at HN ⊢; have HRy:=Hd (show wr.heap.size ≤ Ry from hRy ▸ Nat.le_refl _))
    | (generalize wk.alloc (.cells #[.bool gy,.slice ay ny cy,.slice by_ my dy] 25) = wy at *; have HRz:=Hd (Uh HKS); generalize hRy:wk.heap.size = Ry at HN ⊢; have HRy:=Hd (show wr.heap.size ≤ Ry from hRy ▸ Uh HRz)))
   all_goals
    have hN:=Uh HN
    have hS:=Uh HS
    have t0:=hN.tri.c0
    have t1:=hN.tri.c1
    have t2:=hN.tri.c2
    have hlo:=hS.out.lt
    have hlx:=hS.tx.lt
    have hrx:=hS.rx
    have hsz:=hN.bel.size
    by_cases hz:ey = 0
    ·have hSy:=hS.keepQ hN.bel
     have hl:=mulF_lists (g1:=p.g) (x1:=p.x) (y1:=p.y) (g2:=q.g) (x2:=q.x) (y2:=q.y)
     obtain ⟨g_,N_,D_,eq_,mm_,_⟩:=mulF_ok (Uh HP).1 (Uh HP).2 (by rw [Uh HY]; exact hz)
     rw [Uh HY] at hl eq_
     have hmy:MayR gy xy yy = true:=by cases eq_; exact mm_
     obtain ⟨⟨⟨gs,xs,ys⟩,es⟩,hX⟩:∃ r,AddF z.g z.x z.y gy xy yy = r:=⟨_,rfl⟩
     have KQ:=wplus_F z.g gy z.a z.b ay by_ z.n z.c z.m z.d ny cy my dy z.x z.y xy yy wy hSy.num hSy.den hN.num hN.den hSy.ox hSy.oy hl.1 hl.2 hSy.may hmy
     unfold ratV at KQ
     rw [hX] at KQ
     have HKQ:=Hd KQ
     have HSy:=Hd hSy
     have HX1:=Hd hX
     have HMy:=Hd hmy
     have s0:=hSy.tx.c0
     have s1:=hSy.tx.c1
     have s2:=hSy.tx.c2
     have HZ:=Hd hz
     have hz2:(ey != 0) = false:=by simpa using hz
     clear hN hS hSy hl eq_ mm_ hmy hX KQ hz HKP HN HS hlo hlx hrx hsz
     (try clear k_0 k_1 k_2 k_3 k_4 k_5 ka_0 ka_1 ka_2 ka_3 ka_4 ka_5 kf_0 kf_1 kf_2 kf_3 kf_4 kf_5 kn_0 kn_1 kn_2 kn_3 kn_4 kn_5 h_0 h_1 h_2 h_3 h_4 h_5 ha_0 ha_1 ha_2 ha_3 ha_4 ha_5)
     go_wp2_with fail
     refine (Uh HKQ).mono ?_
     rintro _ wq ⟨v,rfl,as_,ns,cs,bs,ms,ds,rfl,ux,uy,un,um,hbq⟩
     (try dsimp only at ux uy)
     unfold ratV
     have hSy:=Uh HSy
     have hOx:=(hSy.tx.keep hbq).out
     obtain ⟨hT4,hO4,hx4,hy4,hb4,na4,nb4⟩:=hSy.put (gy:=gs) hbq ux uy un um
     have hl2:=addF_lists (g1:=z.g) (x1:=z.x) (y1:=z.y) (g2:=gy) (x2:=xy) (y2:=yy)
     rw [Uh HX1] at hl2
     obtain ⟨j0,u0⟩:=hOx.cells 0 (by decide)
     obtain ⟨j1,u1⟩:=hOx.cells 1 (by decide)
     obtain ⟨j2,u2_⟩:=hOx.cells 2 (by decide)
     have v0:=hOx.fz 0 (by decide)
     have v1:=hOx.fz 1 (by decide)
     have v2:=hOx.fz 2 (by decide)
     have hrx:=hSy.rx
     have hr1:w2.heap.size ≠ w.heap.size:=by omega
     have hr2:=hr1.symm
     by_cases hz3:es = 0
     ·have hD2:=(dtQ_go (l:=ps.drop (i + 1)) (k:=qs.drop (i + 1)) (z:=(z.g,z.x,z.y)) (Uh HY) (Uh HZ) (Uh HX1) hz3).symm.trans (Uh HD)
      obtain ⟨g_,N_,D_,eq_,mm_,_⟩:=addF_ok hSy.may (Uh HMy) (by rw [Uh HX1]; exact hz3)
      rw [Uh HX1] at eq_
      have hms:MayR gs xs ys = true:=by cases eq_; exact mm_
      have HX:=Hd (And.intro (show SmX w (((wq.setCell ⟨w2.heap.size,0,none⟩ (.bool gs)).setCell ⟨w2.heap.size,1,none⟩ (.slice as_ ns cs)).setCell ⟨w2.heap.size,2,none⟩ (.slice bs ms ds)) w.heap.size w2.heap.size ⟨gs,as_,ns,cs,xs,bs,ms,ds,ys⟩ from ⟨hb4,hO4,hT4,hx4,hy4,hl2.1,hl2.2,hms,na4,nb4,hSy.ro,hSy.rx⟩) hD2)
      have hz4:(es != 0) = false:=by simpa using hz3
      clear hSy hOx hT4 hO4 hx4 hy4 hb4 na4 nb4 hl2 hD2 eq_ mm_ hms hz3 ux uy un um hbq HKQ HSy HD HY HZ HX1 HMy HP hrx
      go_wp2_with fail
      exact ⟨⟨i + 1,⟨gs,as_,ns,cs,xs,bs,ms,ds,ys⟩,by omega,by go_num,(Uh HX).1,(Uh HX).2⟩,by simp [intOf]; omega⟩
     ·have hD2:=(dtQ_no2 (l:=ps.drop (i + 1)) (k:=qs.drop (i + 1)) (z:=(z.g,z.x,z.y)) (Uh HY) (Uh HZ) (Uh HX1) hz3).symm.trans (Uh HD)
      simp only [Prod.mk.injEq] at hD2
      obtain ⟨⟨rfl,rfl,rfl⟩,rfl⟩:=hD2
      have HX:=Hd (And.intro (ret_Q (w:=w) (gy:=gs) hO4 hx4 hy4 na4 nb4 hb4 hSy.ro) (three_set _ w.heap.size (.bool gs) (.slice as_ ns cs) (.slice bs ms ds) hO4.cells))
      have x0:=hT4.c0
      have x1:=hT4.c1
      have x2:=hT4.c2
      obtain ⟨j3,u3_⟩:=hO4.cells 0 (by decide)
      obtain ⟨j4,u4_⟩:=hO4.cells 1 (by decide)
      obtain ⟨j5,u5_⟩:=hO4.cells 2 (by decide)
      have v3:=hO4.fz 0 (by decide)
      have v4:=hO4.fz 1 (by decide)
      have v5:=hO4.fz 2 (by decide)
      have hz4:(es != 0) = true:=by simpa using hz3
      clear hSy hOx hT4 hO4 hx4 hy4 hb4 na4 nb4 hl2 hz3 ux uy un um hbq HKQ HSy HD HY HZ HX1 HMy HP hrx
      go_wp2_with fail
      try go_region
      all_goals
       try go_wp2_with fail
       obtain ⟨hR,t0_,t1_,t2_,cc⟩:=Uh HX
       generalize (((((wq.setCell ⟨w2.heap.size,0,none⟩ (.bool gs)).setCell ⟨w2.heap.size,1,none⟩ (.slice as_ ns cs)).setCell ⟨w2.heap.size,2,none⟩ (.slice bs ms ds)).setCell ⟨w.heap.size,0,none⟩ (.bool gs)).setCell ⟨w.heap.size,1,none⟩ (.slice as_ ns cs)).setCell ⟨w.heap.size,2,none⟩ (.slice bs ms ds) = wv at *
       refine bodyPost_ret (by simp [results,Tryz.results86,go_sem,t0_,t1_,t2_]; try rfl) rfl ?_
       first | exact ⟨_,rfl,hR⟩ | exact ⟨_,rfl,hR.drewQ⟩
    ·have hOo:=hS.out.keep hN.bel
     obtain ⟨j0,u0⟩:=hOo.cells 0 (by decide)
     obtain ⟨j1,u1⟩:=hOo.cells 1 (by decide)
     obtain ⟨j2,u2_⟩:=hOo.cells 2 (by decide)
     have v0:=hOo.fz 0 (by decide)
     have v1:=hOo.fz 1 (by decide)
     have v2:=hOo.fz 2 (by decide)
     have hD2:=(dtQ_no1 (l:=ps.drop (i + 1)) (k:=qs.drop (i + 1)) (z:=(z.g,z.x,z.y)) (Uh HY) hz).symm.trans (Uh HD)
     simp only [Prod.mk.injEq] at hD2
     obtain ⟨⟨rfl,rfl,rfl⟩,rfl⟩:=hD2
     have HX:=Hd (And.intro (ret_Q (w:=w) (gy:=gy) hOo hN.num hN.den (fun p hp => by have:=hN.na p hp; omega) (fun p hp => by have:=hN.nb p hp; omega) (hS.bel.trans (hN.bel.mono hS.bel.size)) hS.ro) (three_set wy w.heap.size (.bool gy) (.slice ay ny cy) (.slice by_ my dy) hOo.cells))
     have hz2:(ey != 0) = true:=by simpa using hz
     have hr1:Ry ≠ w.heap.size:=by have:=Uh HRy; omega
     have hr2:=hr1.symm
     clear hN hS hOo hz HD HP HY HKP
     (try clear k_0 k_1 k_2 k_3 k_4 k_5 ka_0 ka_1 ka_2 ka_3 ka_4 ka_5 kf_0 kf_1 kf_2 kf_3 kf_4 kf_5 kn_0 kn_1 kn_2 kn_3 kn_4 kn_5 h_0 h_1 h_2 h_3 h_4 h_5 ha_0 ha_1 ha_2 ha_3 ha_4 ha_5)
     go_wp2_with fail
     try go_region
     all_goals
      try go_wp2_with fail
      obtain ⟨hR,t0_,t1_,t2_,cc⟩:=Uh HX
      generalize ((wy.setCell ⟨w.heap.size,0,none⟩ (.bool gy)).setCell ⟨w.heap.size,1,none⟩ (.slice ay ny cy)).setCell ⟨w.heap.size,2,none⟩ (.slice by_ my dy) = wq at *
      refine bodyPost_ret (by simp [results,Tryz.results86,go_sem,t0_,t1_,t2_]; try rfl) rfl ?_
      first | exact ⟨_,rfl,hR⟩ | exact ⟨_,rfl,hR.drewQ⟩
  ·obtain rfl:i = n:=by omega
   have hlt':¬ (i:Int) < (i:Int):=by omega
   have hd:ps.drop i = []:=List.drop_eq_nil_of_le (by rw [Uh HL]; exact Nat.le_refl _)
   rw [hd,dtQ_nil] at HD
   have hD2:((z.g,z.x,z.y),(0:Int)) = ((SG,LN,LD),ER):=Uh HD
   simp only [Prod.mk.injEq] at hD2
   obtain ⟨⟨rfl,rfl,rfl⟩,rfl⟩:=hD2
   have e0:=hS.tx.c0
   have e1:=hS.tx.c1
   have e2:=hS.tx.c2
   have hOo:=hS.out
   obtain ⟨j0,u0⟩:=hOo.cells 0 (by decide)
   obtain ⟨j1,u1⟩:=hOo.cells 1 (by decide)
   obtain ⟨j2,u2_⟩:=hOo.cells 2 (by decide)
   have v0:=hOo.fz 0 (by decide)
   have v1:=hOo.fz 1 (by decide)
   have v2:=hOo.fz 2 (by decide)
   have hrx:=hS.rx
   have hr1:w2.heap.size ≠ w.heap.size:=by omega
   have hr2:=hr1.symm
   have HX:=Hd (And.intro (ret_Q (w:=w) (gy:=z.g) hOo hS.num hS.den hS.na hS.nb hS.bel hS.ro) (three_set wr w.heap.size (.bool z.g) (.slice z.a z.n z.c) (.slice z.b z.m z.d) hOo.cells))
   clear hS hOo HD hd hrx
   go_wp2_with fail
   try go_region
   all_goals
    try go_wp2_with fail
    obtain ⟨hR,t0_,t1_,t2_,cc⟩:=Uh HX
    generalize ((wr.setCell ⟨w.heap.size,0,none⟩ (.bool z.g)).setCell ⟨w.heap.size,1,none⟩ (.slice z.a z.n z.c)).setCell ⟨w.heap.size,2,none⟩ (.slice z.b z.m z.d) = wq at *
    refine bodyPost_ret (by simp [results,Tryz.results86,go_sem,t0_,t1_,t2_]; try rfl) rfl ?_
    first | exact ⟨_,rfl,hR⟩ | exact ⟨_,rfl,hR.drewQ⟩
end Go.Proofs.YtmmeiebbnjjijaaGreatDoor
