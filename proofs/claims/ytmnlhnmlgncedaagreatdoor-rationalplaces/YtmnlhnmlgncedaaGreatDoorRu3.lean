/- Rl3 -/
import Derived.Test.YtmnlhnmlgncedaaGreatDoorRl2
import Derived.Test.YtmnlhnmlgncedaaGreatDoorUpd
import Derived.Deep.RegionHeld3
namespace Go.Proofs.YtmnlhnmlgncedaaGreatDoor
open Go.RowKit Go.Deep
set_option linter.unusedVariables false
theorem rnum2_any (e:Int) (w:World):Calls Tryz.prog 10 #[.int .i64 e] w fun x w' => x = .returned (.int .i64 e) ∧ w' = w:=by
 go_enter Tryz.func10,Tryz.ntmps10
 go_wp2
 go_ret
 exact ⟨rfl,rfl⟩
theorem limbs_small {v:Nat} (h0:0 < v) (h:v < 4294967296):limbs v = [v]:=by
 have:=limbs_val (xs:=[v]) (by intro x hx; simp at hx; subst hx; exact h) (by right; simp; omega)
 simpa [val] using this
theorem alive_make:makeL true [6] [4] = ⟨true,[3],[2],0⟩:=by
 have e:(MayL [6] && MayL [4]) = true:=by decide
 unfold makeL
 rw [if_pos e,if_neg (by decide)]
 have v6:val [6] = 6:=by simp [val]
 have v4:val [4] = 4:=by simp [val]
 have hg:Nat.gcd 6 4 = 2:=by decide
 rw [v6,v4,hg,show 6 / 2 = 3 from rfl,show 4 / 2 = 2 from rfl,limbs_small (by decide) (by decide),limbs_small (by decide) (by decide)]
 rfl
theorem mayR_32:MayR true [3] [2] = true:=by
 unfold MayR
 have v3:val [3] = 3:=by simp [val]
 have v2:val [2] = 2:=by simp [val]
 rw [v3,v2]
 decide
theorem mayR_21:MayR false [2] [1] = true:=by
 unfold MayR
 have v1:val [1] = 1:=by simp [val]
 have v2:val [2] = 2:=by simp [val]
 rw [v1,v2]
 decide
theorem mayR_12:MayR false [1] [2] = true:=by
 unfold MayR
 have v1:val [1] = 1:=by simp [val]
 have v2:val [2] = 2:=by simp [val]
 rw [v1,v2]
 decide
theorem alive_add:AddF true [3] [2] false [2] [1] = ((false,[1],[2]),0):=by
 have v1:val [1] = 1:=by simp [val]
 have v2:val [2] = 2:=by simp [val]
 have v3:val [3] = 3:=by simp [val]
 have eG:adG [2] [1] = 1:=by unfold adG; rw [v2,v1]; decide
 have eS:adS true [3] [2] false [2] [1] = (1,false):=by unfold adS; rw [eG,v1,v2,v3]; decide
 have eC:adC true [3] [2] false [2] [1] = 1:=by unfold adC; rw [eS,eG]; decide
 have eN:adN true [3] [2] false [2] [1] = 1:=by unfold adN; rw [eS,eC]; rfl
 have eD:adD true [3] [2] false [2] [1] = 2:=by unfold adD; rw [eC,eG,v1,v2]
 unfold AddF
 rw [mayR_32,mayR_21,eN,eD,eS,limbs_small (by decide) (by decide),limbs_small (by decide) (by decide)]
 have b1:bigN 1 = false:=by unfold bigN; rw [limbs_small (by decide) (by decide)]; decide
 have b2:bigN 2 = false:=by unfold bigN; rw [limbs_small (by decide) (by decide)]; decide
 rw [b1,b2]
 rfl
theorem alive_cmp:CmpF true [3] [2] false [1] [2] = -1:=by
 unfold CmpF
 rw [mayR_32,mayR_12]
 unfold cmpR signR
 decide
theorem alive_print {s:ByteArray} {e:Int} (h:PrR false [1] [2] s e):s = ⟨#[49,47,50]⟩ ∧ e = 0:=by
 have v1:val [1] = 1:=by simp [val]
 have v2:val [2] = 2:=by simp [val]
 cases h with
 | bad h => rw [mayR_12] at h; cases h
 | whole n h hy ht => simp at hy
 | frac n m h hy ht hm =>
  rw [v1] at ht ⊢
  rw [v2] at hm ⊢
  have e1:n = 1:=ht.uniq (by decide) ⟨by decide,by decide,.inl rfl⟩
  have e2:m = 1:=hm.uniq (by decide) ⟨by decide,by decide,.inl rfl⟩
  subst e1 e2
  exact ⟨by decide,rfl⟩

theorem sl_made {w:World} {g v:Nat} (h:w.cell? ⟨g,0,none⟩ = some (.int .u32 (v:Nat))):Sl w (some ⟨g,0,none⟩) 1 1 [v]:=by
 refine ⟨rfl,Nat.le_refl _,by unfold maxLen; omega,.inr ⟨g,0,rfl,fun i hi => ?_⟩⟩
 obtain rfl:i = 0:=by simp at hi; exact hi
 simpa using h
theorem ok_one {v:Nat} (h:v < 4294967296):Ok [v]:=fun x hx => by simp at hx; subst hx; exact h

theorem alive_join {w w2 w4:World} {R:Nat} {L:List Fct} {ay by_:Option Addr} {ny cy my dy:Nat} {x y:List Nat} (hF:Fcts w w2 L) (hb:Below w2.heap.size w2 w4) (hR:w2.heap.size ≤ R) (hO:Out w4 R) (sx:Sl w4 ay ny cy x) (sy:Sl w4 by_ my dy y) (nx:∀ p,ay = some p → p.block ≠ R) (ny_:∀ p,by_ = some p → p.block ≠ R) (g:Bool) :
  Fcts w (((w4.setCell ⟨R,0,none⟩ (.bool g)).setCell ⟨R,1,none⟩ (.slice ay ny cy)).setCell ⟨R,2,none⟩ (.slice by_ my dy)) (fR R (.bool g) (.slice ay ny cy) (.slice by_ my dy) :: fN ay ny cy x by_ my dy y :: L):=by
 obtain ⟨t0,t1,t2,c4⟩:=three_set w4 R (.bool g) (.slice ay ny cy) (.slice by_ my dy) hO.cells
 have hfz:∀ i,i < 3 → (((w4.setCell ⟨R,0,none⟩ (.bool g)).setCell ⟨R,1,none⟩ (.slice ay ny cy)).setCell ⟨R,2,none⟩ (.slice by_ my dy)).frozen? ⟨R,i,none⟩ = false:=fun i hi => by
  have:=hO.fz i hi
  simpa using this
 have hb2:Below w2.heap.size w2 (((w4.setCell ⟨R,0,none⟩ (.bool g)).setCell ⟨R,1,none⟩ (.slice ay ny cy)).setCell ⟨R,2,none⟩ (.slice by_ my dy)):=hb.trans (c4.below hb.size (fun k hk => by omega))
 exact ((hF.step hb2).add (fN ay ny cy x by_ my dy y) ⟨sx.chg c4 (fun p hp _ => nx p hp),sy.chg c4 (fun p hp _ => ny_ p hp)⟩).add (fR R _ _ _) ⟨t0,t1,t2,hfz 0 (by decide),hfz 1 (by decide),hfz 2 (by decide),Nat.lt_of_lt_of_le hO.lt c4.size⟩

set_option maxHeartbeats 8000000 in
set_option maxRecDepth 100000 in
theorem ralive_any (w:World) (hT:Tab64 w):Calls Tryz.prog 15 #[] w fun e w' => e = .returned (.bool true) ∧ Below w.heap.size w w':=by
 obtain ⟨wa,hwa⟩:∃ x,w.alloc (.cells #[.int .u32 6] 84) = x:=⟨_,rfl⟩
 obtain ⟨wb,hwb⟩:∃ x,wa.alloc (.cells #[.int .u32 4] 84) = x:=⟨_,rfl⟩
 have hba:Below w.heap.size w wa:=by rw [← hwa]; exact bAl
 have hbb:Below wa.heap.size wa wb:=by rw [← hwb]; exact bAl
 have hB:=hba.trans (hbb.mono hba.size)
 have hsz:wa.heap.size = w.heap.size + 1:=by rw [← hwa]; simp
 have s6:Sl wb (some ⟨w.heap.size,0,none⟩) 1 1 [6]:=(sl_made (w:=wa) (g:=w.heap.size) (v:=6) (by rw [← hwa]; simp)).below hbb
 have s4:Sl wb (some ⟨wa.heap.size,0,none⟩) 1 1 [4]:=sl_made (v:=4) (by rw [← hwb]; simp)
 have KM:=ratMake_any true _ _ 1 1 1 1 [6] [4] wb s6 s4 (ok_one (by decide)) (ok_one (by decide)) (hT.below hB)
 rw [alive_make] at KM
 have HKM:=Hj KM
 have HT:=Hj (And.intro (hT.below hB) hB)
 clear hT hba hbb hB s6 s4 KM hsz
 go_enter Tryz.func15,Tryz.ntmps15
 go_wp2_with fail
 refine (Uh HKM).mono ?_
 rintro _ w1 ⟨v,rfl,ax,nx,cx,bx,mx,dx,rfl,sx,sy,_,_,b1⟩
 try dsimp only at sx sy
 unfold ratV
 have hF0:Fcts w w1 [fTab,fN ax nx cx [3] bx mx dx [2]]:=⟨(Uh HT).2.trans (b1.mono (Uh HT).2.size),fun f hf => by simp at hf; rcases hf with rfl | rfl; exact (Uh HT).1.below b1; exact ⟨sx,sy⟩⟩
 obtain ⟨w2,hw2⟩:∃ x,w1.alloc (.cells #[.bool true,.slice ax nx cx,.slice bx mx dx] 25) = x:=⟨_,rfl⟩
 have hF1:=hF0.box (.bool true) (.slice ax nx cx) (.slice bx mx dx) 25
 rw [hw2] at hF1
 have HF:=Hj hF1
 have t:=hF1.r w1.heap.size (.bool true) (.slice ax nx cx) (.slice bx mx dx) (.head _)
 have tc0:=t.c0
 have tc1:=t.c1
 have tc2:=t.c2
 have ne1:=World.new_ne w2 _ tc0
 have HI:=Hj (fun (W:World) => (by have K:=fromInt_any 2 (by decide) (by decide) W; rw [show decide ((2:Int) < 0) = false from rfl,show (2:Int).natAbs = 2 from rfl,limbs_small (v:=2) (by decide) (by decide)] at K; exact K:Calls Tryz.prog 19 #[.int .i64 2] W fun e w' => ∃ v,e = .returned v ∧ NewR W w' false [2] [1] v))
 clear HKM HT sx sy b1 hF0 hF1 t
 go_wp2_with fail
 go_region_held3 (fun w' => w'.cell? ⟨w1.heap.size,0,none⟩ = some (.bool true) ∧ w'.cell? ⟨w1.heap.size,1,none⟩ = some (.slice ax nx cx) ∧ w'.cell? ⟨w1.heap.size,2,none⟩ = some (.slice bx mx dx)) (first | go_keep | (exact ⟨e0,e1,e2⟩) | (exact ⟨g0,g1,g2⟩))
  (first
   | (go_at_call 19; refine (Uh HI _).mono ?_; rintro _ w3 ⟨v,rfl,ai,ni,ci,bi,mi,di,rfl,si,ti,_,_,b3⟩; (first | (have hO:Out w3 w2.heap.size:=(Out.made w2.drew).keep b3; have HO:=Hj hO; clear hO) | (have HN:=True.intro)); have hb3:Below w2.heap.size w2 w3:=(by first | exact (Below.refl _ _).drew.trans b3 | exact ((Below.refl w2.heap.size w2).drew.alloc (Nat.le_refl _) _).trans (b3.mono (by simp))); have e0:=(ck hb3 tc0); have e1:=(ck hb3 tc1); have e2:=(ck hb3 tc2); have hF3:=(((Uh HF).step hb3).add (fN ai ni ci [2] bi mi di [1]) ⟨si,ti⟩); have HA:=Hj (fun (W:World) (hb:Below w3.heap.size w3 W) => (by have hX:=hF3.step hb; have K:=ratAdd_any true false ax bx ai bi nx cx mx dx ni ci mi di [3] [2] [2] [1] W (hX.n ax nx cx [3] bx mx dx [2] (by simp)).num (hX.n ax nx cx [3] bx mx dx [2] (by simp)).den (si.below hb) (ti.below hb) (ok_one (by decide)) (ok_one (by decide)) (ok_one (by decide)) (ok_one (by decide)) (hX.tab (by simp)); rw [alive_add] at K; unfold ratV at K; exact K:Calls Tryz.prog 22 #[.agg #[.bool true,.slice ax nx cx,.slice bx mx dx],.agg #[.bool false,.slice ai ni ci,.slice bi mi di]] W fun e w' => ResR W w' false [1] [2] 0 e)); have HB3:=Hj hb3; have ne2:=World.new_ne w3 _ e0; unfold ratV; clear si ti b3 hb3 hF3)
   | (go_at_call 22; refine (Uh HA _ (by first | exact Below.refl _ _ | exact bAl)).mono ?_; rintro _ w4 ⟨v,rfl,ay,ny,cy,by_,my,dy,rfl,sy,uy,nY,nU,b4⟩; unfold ratV; (first | (have hO4:=(Uh HO).keep b4) | (have hO4:=(Out.made w3).keep b4) | (have HN4:=True.intro)); have hb4:Below w3.heap.size w3 w4:=(by first | exact b4 | exact ((Below.refl w3.heap.size w3).alloc (Nat.le_refl _) _).trans (b4.mono (by simp))); have g0:=(ck hb4 e0); have g1:=(ck hb4 e1); have g2:=(ck hb4 e2); (try (obtain ⟨i0,o0⟩:=hO4.cells 0 (by decide); obtain ⟨i1,o1⟩:=hO4.cells 1 (by decide); obtain ⟨i2,o2⟩:=hO4.cells 2 (by decide); have f0:=hO4.fz 0 (by decide); have f1:=hO4.fz 1 (by decide); have f2:=hO4.fz 2 (by decide); have HO4:=Hj hO4; clear hO4)); have ne3:=World.new_ne w4 _ g0; have HY:=Hj (And.intro sy (And.intro uy (And.intro nY (And.intro nU (And.intro b4 (And.intro hb4 ((Uh HB3).trans (hb4.mono (Uh HB3).size)))))))); clear sy uy nY nU b4 hb4))
 rotate_left 0
 focus
  obtain ⟨sy,uy,nY,nU,b4,hb4,hb24⟩:=Uh HY
  have hF5:=(((Uh HF).step hb24).add (fN ay ny cy [1] by_ my dy [2]) ⟨sy,uy⟩).box (.bool false) (.slice ay ny cy) (.slice by_ my dy) 25
  have HF5:=Hj hF5
  clear sy uy nY nU b4 hb4 hb24 HY hF5 HF HI HA HB3 tc0 tc1 tc2 e0 e1 e2 g0 g1 g2 ne1 ne2 ne3 hw2
  generalize w4.alloc (.cells #[.bool false,.slice ay ny cy,.slice by_ my dy] 25) = w5 at *
  generalize w4.heap.size = R at *
 rotate_left
 focus
  obtain ⟨sy,uy,nY,nU,b4,hb4,hb24⟩:=Uh HY
  have hF5:=alive_join (x:=[1]) (y:=[2]) (Uh HF) hb24 (Uh HB3).size (Uh HO4) sy uy (fun p hp h => by have:=nY p hp; simp at this; omega) (fun p hp h => by have:=nU p hp; simp at this; omega) false
  have HF5:=Hj hF5
  clear sy uy nY nU b4 hb4 hb24 HY hF5 HF HI HA HB3 HO4 tc0 tc1 tc2 e0 e1 e2 g0 g1 g2 ne1 ne2 ne3 hw2 o0 o1 o2 f0 f1 f2
  generalize ((w4.setCell ⟨w3.heap.size,0,none⟩ (.bool false)).setCell ⟨w3.heap.size,1,none⟩ (.slice ay ny cy)).setCell ⟨w3.heap.size,2,none⟩ (.slice by_ my dy) = w5 at *
  generalize w3.heap.size = R at *
 rotate_left
 focus
  obtain ⟨sy,uy,nY,nU,b4,hb4,hb24⟩:=Uh HY
  have hlt:=(Uh HO).lt
  have hF5:=alive_join (x:=[1]) (y:=[2]) (Uh HF) hb24 (Nat.le_refl _) (Uh HO4) sy uy (fun p hp h => by have:=nY p hp; omega) (fun p hp h => by have:=nU p hp; omega) false
  have HF5:=Hj hF5
  clear sy uy nY nU b4 hb4 hb24 HY hF5 HF HI HA HB3 HO4 HO tc0 tc1 tc2 e0 e1 e2 g0 g1 g2 ne1 ne2 ne3 hw2 o0 o1 o2 f0 f1 f2 hlt
  generalize ((w4.setCell ⟨w2.heap.size,0,none⟩ (.bool false)).setCell ⟨w2.heap.size,1,none⟩ (.slice ay ny cy)).setCell ⟨w2.heap.size,2,none⟩ (.slice by_ my dy) = w5 at *
  generalize w2.heap.size = R at *
 rotate_left
 all_goals
  have KP:=ratPrint_any false ay by_ ny cy my dy [1] [2] w5 ((Uh HF5).n ay ny cy [1] by_ my dy [2] (by simp)).num ((Uh HF5).n ay ny cy [1] by_ my dy [2] (by simp)).den (ok_one (by decide)) (ok_one (by decide)) ((Uh HF5).tab (by simp))
  unfold ratV at KP
  have HKP:=Hj KP
  have t:=(Uh HF5).r R (.bool false) (.slice ay ny cy) (.slice by_ my dy) (.head _)
  have tc0:=t.c0
  have tc1:=t.c1
  have tc2:=t.c2
  clear KP t
  go_wp2_with fail
  refine (Uh HKP).mono ?_
  rintro _ w6 ⟨s,er,rfl,hp,b6⟩
  obtain ⟨rfl,rfl⟩:=alive_print hp
  have HF6:=Hj ((Uh HF5).step b6)
  clear hp b6 HKP HF5 tc0 tc1 tc2
  go_wp2_with fail
  refine (rnum2_any _ _).mono ?_
  rintro _ _ ⟨rfl,hw⟩
  obtain rfl:=hw.symm
  clear hw
  go_wp2_with fail
  refine (rnum2_any _ _).mono ?_
  rintro _ _ ⟨rfl,hw⟩
  obtain rfl:=hw.symm
  clear hw
  go_wp2_with fail
  refine (rnum2_any _ _).mono ?_
  rintro _ _ ⟨rfl,hw⟩
  obtain rfl:=hw.symm
  clear hw
  have tx:=(Uh HF6).r w1.heap.size (.bool true) (.slice ax nx cx) (.slice bx mx dx) (by simp)
  have tx0:=tx.c0
  have tx1:=tx.c1
  have tx2:=tx.c2
  have KY:=ratMay_any true ax bx nx cx mx dx [3] [2] w6 ((Uh HF6).n ax nx cx [3] bx mx dx [2] (by simp)).num ((Uh HF6).n ax nx cx [3] bx mx dx [2] (by simp)).den (ok_one (by decide)) (ok_one (by decide)) ((Uh HF6).tab (by simp))
  rw [mayR_32] at KY
  unfold ratV at KY
  have HKY:=Hj KY
  clear tx KY
  go_wp2_with fail
  refine (Uh HKY).mono ?_
  rintro _ w7 ⟨rfl,b7⟩
  have hF7:=(Uh HF6).step b7
  have KC:=ratCmp_any true false ax bx ay by_ nx cx mx dx ny cy my dy [3] [2] [1] [2] w7 (hF7.n ax nx cx [3] bx mx dx [2] (by simp)).num (hF7.n ax nx cx [3] bx mx dx [2] (by simp)).den (hF7.n ay ny cy [1] by_ my dy [2] (by simp)).num (hF7.n ay ny cy [1] by_ my dy [2] (by simp)).den (ok_one (by decide)) (ok_one (by decide)) (ok_one (by decide)) (ok_one (by decide)) (hF7.tab (by simp))
  rw [alive_cmp] at KC
  unfold ratV at KC
  have HKC:=Hj KC
  have tx:=hF7.r w1.heap.size (.bool true) (.slice ax nx cx) (.slice bx mx dx) (by simp)
  have ty:=hF7.r R (.bool false) (.slice ay ny cy) (.slice by_ my dy) (by simp)
  have x0:=tx.c0
  have x1:=tx.c1
  have x2:=tx.c2
  have y0:=ty.c0
  have y1:=ty.c1
  have y2:=ty.c2
  have HF7:=Hj hF7
  clear HKY b7 hF7 KC tx ty tx0 tx1 tx2 HF6
  go_wp2_with fail
  refine (Uh HKC).mono ?_
  rintro _ w8 ⟨rfl,b8⟩
  have HF8:=Hj ((Uh HF7).step b8)
  clear b8 HKC HF7 x0 x1 x2 y0 y1 y2
  go_wp2_with fail
  go_ret
  exact ⟨rfl,(Uh HF8).bel⟩

theorem cmpF_may {g1 g2:Bool} {x1 y1 x2 y2:List Nat} (h1:MayR g1 x1 y1 = true) (h2:MayR g2 x2 y2 = true):CmpF g1 x1 y1 g2 x2 y2 = Int.sign (nI g1 (val x1) * (val y2:Int) - nI g2 (val x2) * (val y1:Int)):=by
 unfold CmpF
 rw [h1,h2]
 exact cmpR_sign h1 h2
theorem posI {g:Bool} {x y:List Nat} (h:MayR g x y = true):(0:Int) < (val y:Int):=by have:=mayR_pos h; omega
theorem Tri.out {w:World} {R:Nat} {v0 v1 v2:Value} (h:Tri w R v0 v1 v2):Out w R :=
  ⟨fun i hi => by
    match i,hi with
    | 0,_ => exact ⟨_,h.c0⟩
    | 1,_ => exact ⟨_,h.c1⟩
    | 2,_ => exact ⟨_,h.c2⟩,
   fun i hi => by
    match i,hi with
    | 0,_ => exact h.f0
    | 1,_ => exact h.f1
    | 2,_ => exact h.f2,h.lt⟩
theorem NewR.drewQ {w w':World} {g:Bool} {xs ys:List Nat} {v:Value} (h:NewR w w' g xs ys v):NewR w w'.drew g xs ys v:=by
 obtain ⟨a,m,c,b,k,d,e,h1,h2,h3,h4,h5⟩:=h
 exact ⟨a,m,c,b,k,d,e,h1.below (Below.refl _ _).drew,h2.below (Below.refl _ _).drew,h3,h4,h5.drew⟩
theorem ret_Q {w wy:World} {Ro:Nat} {gy:Bool} {ay by_:Option Addr} {ny cy my dy:Nat} {xy yy:List Nat} (hO:Out wy Ro) (hx:Sl wy ay ny cy xy) (hy:Sl wy by_ my dy yy) (na:NewAt (Ro + 1) ay) (nb:NewAt (Ro + 1) by_) (hB:Below w.heap.size w wy) (hR:w.heap.size ≤ Ro) :
  NewR w (((wy.setCell ⟨Ro,0,none⟩ (.bool gy)).setCell ⟨Ro,1,none⟩ (.slice ay ny cy)).setCell ⟨Ro,2,none⟩ (.slice by_ my dy)) gy xy yy (ratV gy ay ny cy by_ my dy):=by
 have c4:=(three_set wy Ro (.bool gy) (.slice ay ny cy) (.slice by_ my dy) hO.cells).2.2.2
 exact ⟨ay,ny,cy,by_,my,dy,rfl,hx.chg c4 (fun p hp _ e => by have:=na p hp; omega),hy.chg c4 (fun p hp _ e => by have:=nb p hp; omega),fun p hp => by have:=na p hp; omega,fun p hp => by have:=nb p hp; omega,hB.trans (c4.below hB.size (fun k hk e => by omega))⟩
end Go.Proofs.YtmnlhnmlgncedaaGreatDoor
