/- Ru9 -/
import Derived.Test.YtmmeiebbnjjijaaGreatDoorRu8
import Derived.Test.YtmmeiebbnjjijaaGreatDoorRu3
import Derived.Test.YtmmeiebbnjjijaaGreatDoorWi2
namespace Go.Proofs.YtmmeiebbnjjijaaGreatDoor
open Go.RowKit Go.Deep
set_option linter.unusedVariables false
set_option maxRecDepth 100000 in
set_option maxHeartbeats 8000000 in
theorem wDot_no1 (a:Option Addr) (n c:Nat) (ps:List Nq) (a':Option Addr) (n' c':Nat) (qs:List Nq) (w:World) (h:SlQ w a n c ps) (h':SlQ w a' n' c' qs) (hn:n ≤ 140737488355328) (hn':n' ≤ 140737488355328)  (hm:mayQ ps = false) :
  Calls Tryz.prog 86 #[.slice a n c,.slice a' n' c'] w fun e w' => ResF w w' ((false,[],[]),40) e:=by
 unfold ResF
 dsimp only
 obtain ⟨wo,hwo⟩:∃ x,w.alloc (.cells #[.bool false,.slice none 0 0,.slice none 0 0] 25) = x:=⟨_,rfl⟩
 have hbo:Below w.heap.size w wo:=by rw [← hwo]; exact bAl
 have hO:=Out.made w
 rw [hwo] at hO
 have KA:=wmayAll_any a n c ps wo (h.below hbo) hn 
 rw [hm] at KA
 have HK:=Hd KA
 have HO:=Hd (And.intro hO hbo)
 clear KA  h h' hm  hO hbo 
 go_enter Tryz.func86,Tryz.ntmps86
 go_wp2_with fail
 refine (Uh HK).mono ?_
 rintro _ w1 ⟨rfl,hb1⟩
 have hB1:=(Uh HO).2.trans (hb1.mono (Uh HO).2.size)
 have hO1:=(Uh HO).1.keep hb1
 have HX:=Hd (And.intro (ret_Q (w:=w) (gy:=false) hO1 (sl_nil _) (sl_nil _) (newAt_nil _) (newAt_nil _) hB1 (Nat.le_refl _)) (three_set w1 w.heap.size (.bool false) (.slice none 0 0) (.slice none 0 0) hO1.cells))
 obtain ⟨i0,o0⟩:=hO1.cells 0 (by decide)
 obtain ⟨i1,o1⟩:=hO1.cells 1 (by decide)
 obtain ⟨i2,o2⟩:=hO1.cells 2 (by decide)
 have f0:=hO1.fz 0 (by decide)
 have f1:=hO1.fz 1 (by decide)
 have f2:=hO1.fz 2 (by decide)
 clear HO hb1 hB1 hO1 HK
 go_wp2_with fail
 try go_region
 all_goals
  try go_wp2_with fail
  obtain ⟨hR,t0,t1,t2,cc⟩:=Uh HX
  generalize ((w1.setCell ⟨w.heap.size,0,none⟩ (.bool false)).setCell ⟨w.heap.size,1,none⟩ (.slice none 0 0)).setCell ⟨w.heap.size,2,none⟩ (.slice none 0 0) = wk at *
  refine bodyPost_ret (by simp [results,Tryz.results86,go_sem,t0,t1,t2]; try rfl) rfl ?_
  first | exact ⟨_,rfl,hR⟩ | exact ⟨_,rfl,hR.drewQ⟩
set_option maxRecDepth 100000 in
set_option maxHeartbeats 8000000 in
theorem wDot_no2 (a:Option Addr) (n c:Nat) (ps:List Nq) (a':Option Addr) (n' c':Nat) (qs:List Nq) (w:World) (h:SlQ w a n c ps) (h':SlQ w a' n' c' qs) (hn:n ≤ 140737488355328) (hn':n' ≤ 140737488355328)  (hm:mayQ ps = true) (hm':mayQ qs = false) :
  Calls Tryz.prog 86 #[.slice a n c,.slice a' n' c'] w fun e w' => ResF w w' ((false,[],[]),40) e:=by
 unfold ResF
 dsimp only
 obtain ⟨wo,hwo⟩:∃ x,w.alloc (.cells #[.bool false,.slice none 0 0,.slice none 0 0] 25) = x:=⟨_,rfl⟩
 have hbo:Below w.heap.size w wo:=by rw [← hwo]; exact bAl
 have hO:=Out.made w
 rw [hwo] at hO
 have KA:=wmayAll_any a n c ps wo (h.below hbo) hn 
 rw [hm] at KA
 have HK:=Hd KA
 have KB:=fun (W:World) (hb:Below wo.heap.size wo W) => wmayAll_any a' n' c' qs W ((h'.below hbo).below hb) hn' 
 rw [hm'] at KB
 have HKB:=Hd KB
 have HO:=Hd (And.intro hO hbo)
 clear KA KB h h' hm hm' hO hbo 
 go_enter Tryz.func86,Tryz.ntmps86
 go_wp2_with fail
 refine (Uh HK).mono ?_
 rintro _ w1 ⟨rfl,hb1⟩
 have HBA:=Hd hb1
 clear HK hb1
 go_wp2_with fail
 refine (Uh HKB w1 (Uh HBA)).mono ?_
 rintro _ wj ⟨rfl,hbj⟩
 have hb1:=(Uh HBA).trans (hbj.mono (Uh HBA).size)
 have hB1:=(Uh HO).2.trans (hb1.mono (Uh HO).2.size)
 have hO1:=(Uh HO).1.keep hb1
 have HX:=Hd (And.intro (ret_Q (w:=w) (gy:=false) hO1 (sl_nil _) (sl_nil _) (newAt_nil _) (newAt_nil _) hB1 (Nat.le_refl _)) (three_set wj w.heap.size (.bool false) (.slice none 0 0) (.slice none 0 0) hO1.cells))
 obtain ⟨i0,o0⟩:=hO1.cells 0 (by decide)
 obtain ⟨i1,o1⟩:=hO1.cells 1 (by decide)
 obtain ⟨i2,o2⟩:=hO1.cells 2 (by decide)
 have f0:=hO1.fz 0 (by decide)
 have f1:=hO1.fz 1 (by decide)
 have f2:=hO1.fz 2 (by decide)
 clear HO hb1 hB1 hO1 HBA HKB hbj
 go_wp2_with fail
 try go_region
 all_goals
  try go_wp2_with fail
  obtain ⟨hR,t0,t1,t2,cc⟩:=Uh HX
  generalize ((wj.setCell ⟨w.heap.size,0,none⟩ (.bool false)).setCell ⟨w.heap.size,1,none⟩ (.slice none 0 0)).setCell ⟨w.heap.size,2,none⟩ (.slice none 0 0) = wk at *
  refine bodyPost_ret (by simp [results,Tryz.results86,go_sem,t0,t1,t2]; try rfl) rfl ?_
  first | exact ⟨_,rfl,hR⟩ | exact ⟨_,rfl,hR.drewQ⟩
set_option maxRecDepth 100000 in
set_option maxHeartbeats 8000000 in
theorem wDot_no3 (a:Option Addr) (n c:Nat) (ps:List Nq) (a':Option Addr) (n' c':Nat) (qs:List Nq) (w:World) (h:SlQ w a n c ps) (h':SlQ w a' n' c' qs) (hn:n ≤ 140737488355328) (hn':n' ≤ 140737488355328)  (hm:mayQ ps = true) (hm':mayQ qs = true) (hne:(((n:Int) != (n':Int)) = true)) :
  Calls Tryz.prog 86 #[.slice a n c,.slice a' n' c'] w fun e w' => ResF w w' ((false,[],[]),1) e:=by
 unfold ResF
 dsimp only
 obtain ⟨wo,hwo⟩:∃ x,w.alloc (.cells #[.bool false,.slice none 0 0,.slice none 0 0] 25) = x:=⟨_,rfl⟩
 have hbo:Below w.heap.size w wo:=by rw [← hwo]; exact bAl
 have hO:=Out.made w
 rw [hwo] at hO
 have KA:=wmayAll_any a n c ps wo (h.below hbo) hn 
 rw [hm] at KA
 have HK:=Hd KA
 have KB:=fun (W:World) (hb:Below wo.heap.size wo W) => wmayAll_any a' n' c' qs W ((h'.below hbo).below hb) hn' 
 rw [hm'] at KB
 have HKB:=Hd KB
 have HO:=Hd (And.intro hO hbo)
 clear KA KB h h' hm hm' hO hbo 
 go_enter Tryz.func86,Tryz.ntmps86
 go_wp2_with fail
 refine (Uh HK).mono ?_
 rintro _ w1 ⟨rfl,hb1⟩
 have HBA:=Hd hb1
 clear HK hb1
 go_wp2_with fail
 refine (Uh HKB w1 (Uh HBA)).mono ?_
 rintro _ wj ⟨rfl,hbj⟩
 have hb1:=(Uh HBA).trans (hbj.mono (Uh HBA).size)
 have hB1:=(Uh HO).2.trans (hb1.mono (Uh HO).2.size)
 have hO1:=(Uh HO).1.keep hb1
 have HX:=Hd (And.intro (ret_Q (w:=w) (gy:=false) hO1 (sl_nil _) (sl_nil _) (newAt_nil _) (newAt_nil _) hB1 (Nat.le_refl _)) (three_set wj w.heap.size (.bool false) (.slice none 0 0) (.slice none 0 0) hO1.cells))
 obtain ⟨i0,o0⟩:=hO1.cells 0 (by decide)
 obtain ⟨i1,o1⟩:=hO1.cells 1 (by decide)
 obtain ⟨i2,o2⟩:=hO1.cells 2 (by decide)
 have f0:=hO1.fz 0 (by decide)
 have f1:=hO1.fz 1 (by decide)
 have f2:=hO1.fz 2 (by decide)
 clear HO hb1 hB1 hO1 HBA HKB hbj
 go_wp2_with fail
 try go_region
 all_goals
  try go_wp2_with fail
  obtain ⟨hR,t0,t1,t2,cc⟩:=Uh HX
  generalize ((wj.setCell ⟨w.heap.size,0,none⟩ (.bool false)).setCell ⟨w.heap.size,1,none⟩ (.slice none 0 0)).setCell ⟨w.heap.size,2,none⟩ (.slice none 0 0) = wk at *
  refine bodyPost_ret (by simp [results,Tryz.results86,go_sem,t0,t1,t2]; try rfl) rfl ?_
  first | exact ⟨_,rfl,hR⟩ | exact ⟨_,rfl,hR.drewQ⟩
theorem wDot_any (a:Option Addr) (n c:Nat) (ps:List Nq) (a':Option Addr) (n' c':Nat) (qs:List Nq) (w:World) (h:SlQ w a n c ps) (h':SlQ w a' n' c' qs) (hn:n ≤ 140737488355328) (hn':n' ≤ 140737488355328)  :
  Calls Tryz.prog 86 #[.slice a n c,.slice a' n' c'] w fun e w' => ResF w w' (dotQ ps qs) e:=by
 unfold dotQ
 cases hm:mayQ ps
 ·simp only [Bool.false_and,Bool.false_eq_true,if_false]
  exact wDot_no1 a n c ps a' n' c' qs w h h' hn hn'  hm
 ·cases hm':mayQ qs
  ·simp only [Bool.and_false,Bool.false_eq_true,if_false]
   exact wDot_no2 a n c ps a' n' c' qs w h h' hn hn'  hm hm'
  ·simp only [Bool.and_self,if_true]
   have l1:=h.len
   have l2:=h'.len
   by_cases hl:ps.length = qs.length
   ·rw [if_pos hl]
    obtain rfl:n' = n:=by omega
    exact wDot_yes a _ c ps a' c' qs w h h' hn  hm hm'
   ·rw [if_neg hl]
    exact wDot_no3 a n c ps a' n' c' qs w h h' hn hn'  hm hm' (by simp; omega)
structure FdX (w wr:World) (Rz Ro B:Nat) (z:Nq):Prop where
 bel:Below w.heap.size w wr
 out:Out wr Ro
 tx:Tri wr Rz (.bool z.g) (.slice z.a z.n z.c) (.slice z.b z.m z.d)
 num:Sl wr z.a z.n z.c z.x
 den:Sl wr z.b z.m z.d z.y
 ox:Ok z.x
 oy:Ok z.y
 may:MayR z.g z.x z.y = true
 na:NewAt B z.a
 nb:NewAt B z.b
 pa:∀ p,z.a = some p → z.x ≠ [] → ¬ p.block = Ro
 pb:∀ p,z.b = some p → z.y ≠ [] → ¬ p.block = Ro
 rz:w.heap.size ≤ Rz
 ro:w.heap.size ≤ Ro
 ne:Rz ≠ Ro
 hB:B ≤ w.heap.size
theorem sl_old {w:World} {a:Option Addr} {n c:Nat} {xs:List Nat} (h:Sl w a n c xs):∀ p,a = some p → xs ≠ [] → p.block < w.heap.size:=fun p hp hx => by
 obtain ⟨b,off,e,hc⟩:=h.cells.resolve_left hx
 rw [hp] at e
 cases e
 have c0:=hc 0 (List.length_pos_iff.2 hx)
 exact World.block_lt_of_cell? _ _ c0
def FdP (w w':World) (B:Nat) (r:(Bool × List Nat × List Nat) × Int) (e:Ending):Prop:=∃ a m c b k d,e = .returned (.tuple #[ratV r.1.1 a m c b k d,.int .i64 r.2]) ∧ Sl w' a m c r.1.2.1 ∧ Sl w' b k d r.1.2.2 ∧ NewAt B a ∧ NewAt B b ∧ Below w.heap.size w w'
theorem FdX.next {w wr wk:World} {Rz Ro B:Nat} {z:Nq} {gy:Bool} {ay by_:Option Addr} {ny cy my dy:Nat} {xy yy:List Nat} (h:FdX w wr Rz Ro B z) (hb:Below wr.heap.size wr wk) (hx:Sl wk ay ny cy xy) (hy:Sl wk by_ my dy yy) (nx:NewAt wr.heap.size ay) (ny_:NewAt wr.heap.size by_) (ox:Ok xy) (oy:Ok yy) (hm:MayR gy xy yy = true) :
  FdX w (((wk.setCell ⟨Rz,0,none⟩ (.bool gy)).setCell ⟨Rz,1,none⟩ (.slice ay ny cy)).setCell ⟨Rz,2,none⟩ (.slice by_ my dy)) Rz Ro B ⟨gy,ay,ny,cy,xy,by_,my,dy,yy⟩:=by
 have hO:=(h.tx.keep hb).out
 have c4:=(three_set wk Rz (.bool gy) (.slice ay ny cy) (.slice by_ my dy) hO.cells).2.2.2
 have hlt:=h.tx.lt
 have hlo:=h.out.lt
 have hB:=h.bel.trans (hb.mono h.bel.size)
 have hs:=h.bel.size
 have hbb:=h.hB
 exact ⟨hB.trans (c4.below hB.size (fun k hk e => by have:=h.rz; omega)),(h.out.keep hb).chgQ c4 (fun e => h.ne e.symm),tri_setQ hO _ _ _,hx.chg c4 (fun p hp _ e => by have:=nx p hp; omega),hy.chg c4 (fun p hp _ e => by have:=ny_ p hp; omega),ox,oy,hm,fun p hp => by have:=nx p hp; omega,fun p hp => by have:=ny_ p hp; omega,fun p hp _ e => by have:=nx p hp; omega,fun p hp _ e => by have:=ny_ p hp; omega,h.rz,h.ro,h.ne,h.hB⟩
theorem addF_err {g1 g2 g:Bool} {x1 y1 x2 y2 x y:List Nat} {e:Int} (h:AddF g1 x1 y1 g2 x2 y2 = ((g,x,y),e)) (he:e ≠ 0):g = false ∧ x = [] ∧ y = []:=by
 unfold AddF at h
 split at h
 ·split at h
  ·cases h; exact ⟨rfl,rfl,rfl⟩
  ·cases h; exact absurd rfl he
 ·cases h; exact ⟨rfl,rfl,rfl⟩
theorem mulF_err {g1 g2 g:Bool} {x1 y1 x2 y2 x y:List Nat} {e:Int} (h:MulF g1 x1 y1 g2 x2 y2 = ((g,x,y),e)) (he:e ≠ 0):g = false ∧ x = [] ∧ y = []:=by
 unfold MulF at h
 split at h
 ·split at h
  ·cases h; exact ⟨rfl,rfl,rfl⟩
  ·cases h; exact absurd rfl he
 ·cases h; exact ⟨rfl,rfl,rfl⟩
theorem ret_F {w wy:World} {Ro B:Nat} {gy:Bool} {ay by_:Option Addr} {ny cy my dy:Nat} {xy yy:List Nat} (hO:Out wy Ro) (hx:Sl wy ay ny cy xy) (hy:Sl wy by_ my dy yy) (na:NewAt B ay) (nb:NewAt B by_) (pa:∀ p,ay = some p → xy ≠ [] → ¬ p.block = Ro) (pb:∀ p,by_ = some p → yy ≠ [] → ¬ p.block = Ro) (hB:Below w.heap.size w wy) (hR:w.heap.size ≤ Ro) (er:Int) :
  FdP w (((wy.setCell ⟨Ro,0,none⟩ (.bool gy)).setCell ⟨Ro,1,none⟩ (.slice ay ny cy)).setCell ⟨Ro,2,none⟩ (.slice by_ my dy)) B ((gy,xy,yy),er) (.returned (.tuple #[.agg #[.bool gy,.slice ay ny cy,.slice by_ my dy],.int .i64 er])):=by
 have c4:=(three_set wy Ro (.bool gy) (.slice ay ny cy) (.slice by_ my dy) hO.cells).2.2.2
 exact ⟨ay,ny,cy,by_,my,dy,rfl,hx.chg c4 (fun p hp hh e => pa p hp hh e),hy.chg c4 (fun p hp hh e => pb p hp hh e),na,nb,hB.trans (c4.below hB.size (fun k hk e => by omega))⟩
theorem FdP.drewQ {w w':World} {B:Nat} {r:(Bool × List Nat × List Nat) × Int} {e:Ending} (h:FdP w w' B r e):FdP w w'.drew B r e:=by
 obtain ⟨a,m,c,b,k,d,e,h1,h2,h3,h4,h5⟩:=h
 exact ⟨a,m,c,b,k,d,e,h1.below (Below.refl _ _).drew,h2.below (Below.refl _ _).drew,h3,h4,h5.drew⟩
set_option maxRecDepth 100000 in
set_option maxHeartbeats 16000000 in
theorem foldAdd_any (g:Bool) (az bz:Option Addr) (nz cz mz dz:Nat) (x y:List Nat) (a:Option Addr) (n c:Nat) (ps:List Nq) (w:World) (B:Nat) (hx:Sl w az nz cz x) (hy:Sl w bz mz dz y) (ox:Ok x) (oy:Ok y) (hmz:MayR g x y = true) (na:NewAt B az) (nb:NewAt B bz) (hB:B ≤ w.heap.size) (h:SlQ w a n c ps) (hn:n ≤ 140737488355328) (hT:Tab64 w) (hm:mayQ ps = true) :
  Calls Tryz.prog 126 #[ratV g az nz cz bz mz dz,.slice a n c,.func (.func 95) #[] #[]] w fun e w' => FdP w w' B (fdQ AddF ps (g,x,y)) e:=by
 obtain ⟨⟨⟨SG,LN,LD⟩,ER⟩,hFF⟩:∃ r,fdQ AddF ps (g,x,y) = r:=⟨_,rfl⟩
 rw [hFF]
 obtain ⟨wz,hwz⟩:∃ q,w.alloc (.cells #[.bool g,.slice az nz cz,.slice bz mz dz] 25) = q:=⟨_,rfl⟩
 have hbz:Below w.heap.size w wz:=by rw [← hwz]; exact bAl
 have hTz:Tri wz w.heap.size (.bool g) (.slice az nz cz) (.slice bz mz dz):=by rw [← hwz]; exact Tri.made _ _ _ _ _
 obtain ⟨wo,hwo⟩:∃ q,wz.alloc (.cells #[.bool false,.slice none 0 0,.slice none 0 0] 25) = q:=⟨_,rfl⟩
 have hbo:Below wz.heap.size wz wo:=by rw [← hwo]; exact bAl
 have hO:=Out.made wz
 rw [hwo] at hO
 have hbw:=hbz.trans (hbo.mono hbz.size)
 have KA:=rmayAll_any a n c ps wo (h.below hbw) hn (hT.below hbw)
 rw [hm] at KA
 have HK:=Hd KA
 have H:=Hd h
 have HL:=Hd h.len
 have HM:=Hd hm
 have HF:=Hd hFF
 have HT:=Hd hT
 have HS0:=Hd (show FdX w wo w.heap.size wz.heap.size B ⟨g,az,nz,cz,x,bz,mz,dz,y⟩ from ⟨hbw,hO,hTz.keep hbo,hx.below hbw,hy.below hbw,ox,oy,hmz,na,nb,fun p hp hx_ e => by have:=sl_old hx p hp hx_; have:=hbz.size; omega,fun p hp hx_ e => by have:=sl_old hy p hp hx_; have:=hbz.size; omega,Nat.le_refl _,hbz.size,Nat.ne_of_lt hTz.lt,hB⟩)
 clear KA h hm hFF hO hbo hbz hTz hbw hx hy ox oy hmz na nb hB hT
 unfold ratV
 go_enter Tryz.func126,Tryz.ntmps126
 go_wp2_with fail
 refine (Uh HK).mono ?_
 rintro _ w1 ⟨rfl,hb1⟩
 have hS0:=Uh HS0
 have HS:=Hd (show FdX w w1 w.heap.size wz.heap.size B ⟨g,az,nz,cz,x,bz,mz,dz,y⟩ from ⟨hS0.bel.trans (hb1.mono hS0.bel.size),hS0.out.keep hb1,hS0.tx.keep hb1,hS0.num.below hb1,hS0.den.below hb1,hS0.ox,hS0.oy,hS0.may,hS0.na,hS0.nb,hS0.pa,hS0.pb,hS0.rz,hS0.ro,hS0.ne,hS0.hB⟩)
 clear HK hb1 HS0 hS0
 go_wp2_with fail
 go_loopw [16,8,9] (fun iv _ _ wr => ∃ (i:Nat) (z:Nq),i ≤ n ∧ iv = .int .i64 (i:Nat) ∧ FdX w wr w.heap.size wz.heap.size B z ∧ Hid (fdQ AddF (ps.drop i) (z.g,z.x,z.y) = ((SG,LN,LD),ER))) (fun iv _ _ _ => n - (intOf iv).toNat)
 case atStart => exact ⟨0,⟨g,az,nz,cz,x,bz,mz,dz,y⟩,Nat.zero_le _,rfl,Uh HS,Uh HF⟩
 case round =>
  clear HS HF hwz hwo
  obtain ⟨i,z,hi,rfl,hS,HD⟩:=hrel
  by_cases hlt:i < n
  ·have hlt':(i:Int) < (n:Int):=by omega
   obtain ⟨b,off,p,rfl,hp,⟨c0,c1,c2⟩,⟨hs1,hs2⟩,o1,o2⟩:=((Uh H).below hS.bel).at' hlt
   have e0:=hS.tx.c0
   have e1:=hS.tx.c1
   have e2:=hS.tx.c2
   have hpm:=mayQ_get (Uh HM) hp
   have hTb:=(Uh HT).below hS.bel
   obtain ⟨⟨⟨gy,xy,yy⟩,ey⟩,hY⟩:∃ r,AddF z.g z.x z.y p.g p.x p.y = r:=⟨_,rfl⟩
   have KP:=fun (W:World) (hb:Below wr.heap.size wr W) => radd_F z.g p.g z.a z.b p.a p.b z.n z.c z.m z.d p.n p.c p.m p.d z.x z.y p.x p.y W (hS.num.below hb) (hS.den.below hb) (hs1.below hb) (hs2.below hb) hS.ox hS.oy o1 o2 hS.may hpm (hTb.below hb)
   unfold ratV at KP
   rw [hY] at KP
   have HKP:=Hd KP
   rw [drop_Q hp] at HD
   have HS:=Hd hS
   have HY:=Hd hY
   have HP:=Hd hpm
   clear KP hS hY hs1 hs2 o1 o2 hpm hp hTb
   go_wp2_with fail
   go_region_with (go_at_call 95; refine (Uh HKP _ (Below.refl _ _).drew).mono ?_; rintro _ wk ⟨v,rfl,ay,ny,cy,by_,my,dy,rfl,sx,sy,nx,nn,hb⟩; (try dsimp only at sx sy); unfold ratV; have hbk:Below wr.heap.size wr wk:=(Below.refl _ _).drew.trans hb; have hOx:=((Uh HS).tx.keep hbk).out; (obtain ⟨j0,u0⟩:=hOx.cells 0 (by decide)); (obtain ⟨j1,u1⟩:=hOx.cells 1 (by decide)); (obtain ⟨j2,u2_⟩:=hOx.cells 2 (by decide)); have v0:=hOx.fz 0 (by decide); have v1:=hOx.fz 1 (by decide); have v2:=hOx.fz 2 (by decide); have HN:=Hd (And.intro sx (And.intro sy (And.intro (show NewAt wr.heap.size ay from nx) (And.intro (show NewAt wr.heap.size by_ from nn) hbk)))); clear sx sy nx nn hb hbk hOx)
   all_goals
    have hS:=Uh HS
    obtain ⟨sx,sy,nx,nn,hbk⟩:=Uh HN
    have hne:=hS.ne
    have hne2:=hne.symm
    have hl:=addF_lists (g1:=z.g) (x1:=z.x) (y1:=z.y) (g2:=p.g) (x2:=p.x) (y2:=p.y)
    rw [Uh HY] at hl
    by_cases hz:ey = 0
    ·have hD2:=(fdQ_go (l:=ps.drop (i + 1)) (z:=(z.g,z.x,z.y)) (Uh HY) hz).symm.trans (Uh HD)
     obtain ⟨g_,N_,D_,eq_,mm_,_⟩:=addF_ok hS.may (Uh HP) (by rw [Uh HY]; exact hz)
     rw [Uh HY] at eq_
     have hmy:MayR gy xy yy = true:=by cases eq_; exact mm_
     have HX:=Hd (And.intro (hS.next hbk sx sy nx nn hl.1 hl.2 hmy) hD2)
     have hz2:(ey != 0) = false:=by simpa using hz
     clear hS sx sy nx nn hbk hl eq_ mm_ hmy hD2 hz HD HP HY HKP HN
     go_wp2_with fail
     exact ⟨⟨i + 1,⟨gy,ay,ny,cy,xy,by_,my,dy,yy⟩,by omega,by go_num,(Uh HX).1,(Uh HX).2⟩,by simp [intOf]; omega⟩
    ·obtain ⟨rfl,rfl,rfl⟩:=addF_err (Uh HY) hz
     have c4:=(three_set wk w.heap.size (.bool false) (.slice ay ny cy) (.slice by_ my dy) ((hS.tx.keep hbk).out).cells).2.2.2
     have hOo:=(hS.out.keep hbk).chgQ c4 (fun e => hne2 e)
     have hBn:=(hS.bel.trans (hbk.mono hS.bel.size))
     have hBm:=hBn.trans (c4.below hBn.size (fun k hk e => by have:=hS.rz; omega))
     have hD2:=(fdQ_no (l:=ps.drop (i + 1)) (z:=(z.g,z.x,z.y)) (Uh HY) hz).symm.trans (Uh HD)
     simp only [Prod.mk.injEq] at hD2
     obtain ⟨⟨rfl,rfl,rfl⟩,rfl⟩:=hD2
     have HX:=Hd (And.intro (ret_F (w:=w) (B:=B) (gy:=false) hOo (sl_nil _) (sl_nil _) (newAt_nil _) (newAt_nil _) (fun p hp => by cases hp) (fun p hp => by cases hp) hBm hS.ro ey) (three_set _ wz.heap.size (.bool false) (.slice none 0 0) (.slice none 0 0) hOo.cells))
     obtain ⟨j3,u3_⟩:=hOo.cells 0 (by decide)
     obtain ⟨j4,u4_⟩:=hOo.cells 1 (by decide)
     obtain ⟨j5,u5_⟩:=hOo.cells 2 (by decide)
     have v3:=hOo.fz 0 (by decide)
     have v4:=hOo.fz 1 (by decide)
     have v5:=hOo.fz 2 (by decide)
     have hz2:(ey != 0) = true:=by simpa using hz
     clear hS sx sy nx nn hbk hl hz HD HP HY HKP HN c4 hOo hBn hBm
     go_wp2_with fail
     try go_region
     all_goals
      try go_wp2_with fail
      obtain ⟨hR,t0_,t1_,t2_,cc⟩:=Uh HX
      generalize (((((wk.setCell ⟨w.heap.size,0,none⟩ (.bool false)).setCell ⟨w.heap.size,1,none⟩ (.slice ay ny cy)).setCell ⟨w.heap.size,2,none⟩ (.slice by_ my dy)).setCell ⟨wz.heap.size,0,none⟩ (.bool false)).setCell ⟨wz.heap.size,1,none⟩ (.slice none 0 0)).setCell ⟨wz.heap.size,2,none⟩ (.slice none 0 0) = wq at *
      refine bodyPost_ret (by simp [results,Tryz.results126,go_sem,t0_,t1_,t2_]; try rfl) rfl ?_
      first | exact hR | exact hR.drewQ
  ·obtain rfl:i = n:=by omega
   have hlt':¬ (i:Int) < (i:Int):=by omega
   have hd:ps.drop i = []:=List.drop_eq_nil_of_le (by rw [Uh HL]; exact Nat.le_refl _)
   rw [hd] at HD
   have hD2:((z.g,z.x,z.y),(0:Int)) = ((SG,LN,LD),ER):=Uh HD
   simp only [Prod.mk.injEq] at hD2
   obtain ⟨⟨rfl,rfl,rfl⟩,rfl⟩:=hD2
   have e0:=hS.tx.c0
   have e1:=hS.tx.c1
   have e2:=hS.tx.c2
   have hOo:=hS.out
   obtain ⟨j0,u0⟩:=hOo.cells 0 (by decide)
   obtain ⟨j1,u1⟩:=hOo.cells 1 (by decide)
   obtain ⟨j2,u2_⟩:=hOo.cells 2 (by decide)
   have v0:=hOo.fz 0 (by decide)
   have v1:=hOo.fz 1 (by decide)
   have v2:=hOo.fz 2 (by decide)
   have hr1:=hS.ne
   have hr2:=hr1.symm
   have HX:=Hd (And.intro (ret_F (w:=w) (B:=B) (gy:=z.g) hOo hS.num hS.den hS.na hS.nb hS.pa hS.pb hS.bel hS.ro 0) (three_set wr wz.heap.size (.bool z.g) (.slice z.a z.n z.c) (.slice z.b z.m z.d) hOo.cells))
   clear hS hOo HD hd
   go_wp2_with fail
   try go_region
   all_goals
    try go_wp2_with fail
    obtain ⟨hR,t0_,t1_,t2_,cc⟩:=Uh HX
    generalize ((wr.setCell ⟨wz.heap.size,0,none⟩ (.bool z.g)).setCell ⟨wz.heap.size,1,none⟩ (.slice z.a z.n z.c)).setCell ⟨wz.heap.size,2,none⟩ (.slice z.b z.m z.d) = wq at *
    refine bodyPost_ret (by simp [results,Tryz.results126,go_sem,t0_,t1_,t2_]; try rfl) rfl ?_
    first | exact hR | exact hR.drewQ
end Go.Proofs.YtmmeiebbnjjijaaGreatDoor
