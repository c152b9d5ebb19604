/- Rl3 -/
import Derived.Test.YtmmeiebbnjjijaaGreatDoorRl4
import Derived.Deep.RegionHeld3
import Derived.Test.YtmmeiebbnjjijaaGreatDoorWil
import Derived.Test.YtmmeiebbnjjijaaGreatDoorWi2
import Derived.Test.YtmmeiebbnjjijaaGreatDoorDv7
import Derived.Test.YtmmeiebbnjjijaaGreatDoorWip
namespace Go.Proofs.YtmmeiebbnjjijaaGreatDoor
open Go.RowKit Go.Deep
set_option linter.unusedVariables false
theorem rnum2_any (e:Int) (w:World):Calls Tryz.prog 11 #[.int .i64 e] w fun x w' => x = .returned (.int .i64 e) ∧ w' = w:=by
 go_enter Tryz.func11,Tryz.ntmps11
 go_wp2
 go_ret
 exact ⟨rfl,rfl⟩
theorem limbs_small {v:Nat} (h0:0 < v) (h:v < 4294967296):limbs v = [v]:=by
 have:=limbs_val (xs:=[v]) (by intro x hx; simp at hx; subst hx; exact h) (by right; simp; omega)
 simpa [val] using this
theorem alive_make:makeL true [6] [4] = ⟨true,[3],[2],0⟩:=by
 have e:(MayL [6] && MayL [4]) = true:=by decide
 unfold makeL
 rw [if_pos e,if_neg (by decide)]
 have v6:val [6] = 6:=by simp [val]
 have v4:val [4] = 4:=by simp [val]
 have hg:Nat.gcd 6 4 = 2:=by decide
 rw [v6,v4,hg,show 6 / 2 = 3 from rfl,show 4 / 2 = 2 from rfl,limbs_small (by decide) (by decide),limbs_small (by decide) (by decide)]
 rfl
theorem mayR_32:MayR true [3] [2] = true:=by
 unfold MayR
 have v3:val [3] = 3:=by simp [val]
 have v2:val [2] = 2:=by simp [val]
 rw [v3,v2]
 decide
theorem mayR_21:MayR false [2] [1] = true:=by
 unfold MayR
 have v1:val [1] = 1:=by simp [val]
 have v2:val [2] = 2:=by simp [val]
 rw [v1,v2]
 decide
theorem mayR_12:MayR false [1] [2] = true:=by
 unfold MayR
 have v1:val [1] = 1:=by simp [val]
 have v2:val [2] = 2:=by simp [val]
 rw [v1,v2]
 decide
theorem alive_add:AddF true [3] [2] false [2] [1] = ((false,[1],[2]),0):=by
 have v1:val [1] = 1:=by simp [val]
 have v2:val [2] = 2:=by simp [val]
 have v3:val [3] = 3:=by simp [val]
 have eG:adG [2] [1] = 1:=by unfold adG; rw [v2,v1]; decide
 have eS:adS true [3] [2] false [2] [1] = (1,false):=by unfold adS; rw [eG,v1,v2,v3]; decide
 have eC:adC true [3] [2] false [2] [1] = 1:=by unfold adC; rw [eS,eG]; decide
 have eN:adN true [3] [2] false [2] [1] = 1:=by unfold adN; rw [eS,eC]; rfl
 have eD:adD true [3] [2] false [2] [1] = 2:=by unfold adD; rw [eC,eG,v1,v2]
 unfold AddF
 rw [mayR_32,mayR_21,eN,eD,eS,limbs_small (by decide) (by decide),limbs_small (by decide) (by decide)]
 have b1:bigN 1 = false:=by unfold bigN; rw [limbs_small (by decide) (by decide)]; decide
 have b2:bigN 2 = false:=by unfold bigN; rw [limbs_small (by decide) (by decide)]; decide
 rw [b1,b2]
 rfl
theorem alive_cmp:CmpF true [3] [2] false [1] [2] = -1:=by
 unfold CmpF
 rw [mayR_32,mayR_12]
 unfold cmpR signR
 decide
theorem alive_print {s:ByteArray} {e:Int} (h:PrR false [1] [2] s e):s = ⟨#[49,47,50]⟩ ∧ e = 0:=by
 have v1:val [1] = 1:=by simp [val]
 have v2:val [2] = 2:=by simp [val]
 cases h with
 | bad h => rw [mayR_12] at h; cases h
 | whole n h hy ht => simp at hy
 | frac n m h hy ht hm =>
  rw [v1] at ht ⊢
  rw [v2] at hm ⊢
  have e1:n = 1:=ht.uniq (by decide) ⟨by decide,by decide,.inl rfl⟩
  have e2:m = 1:=hm.uniq (by decide) ⟨by decide,by decide,.inl rfl⟩
  subst e1 e2
  exact ⟨by decide,rfl⟩

theorem sl_made {w:World} {g v:Nat} (h:w.cell? ⟨g,0,none⟩ = some (.int .u32 (v:Nat))):Sl w (some ⟨g,0,none⟩) 1 1 [v]:=by
 refine ⟨rfl,Nat.le_refl _,by unfold maxLen; omega,.inr ⟨g,0,rfl,fun i hi => ?_⟩⟩
 obtain rfl:i = 0:=by simp at hi; exact hi
 simpa using h
theorem ok_one {v:Nat} (h:v < 4294967296):Ok [v]:=fun x hx => by simp at hx; subst hx; exact h

theorem alive_join {w w2 w4:World} {R:Nat} {L:List Fct} {ay by_:Option Addr} {ny cy my dy:Nat} {x y:List Nat} (hF:Fcts w w2 L) (hb:Below w2.heap.size w2 w4) (hR:w2.heap.size ≤ R) (hO:Out w4 R) (sx:Sl w4 ay ny cy x) (sy:Sl w4 by_ my dy y) (nx:∀ p,ay = some p → p.block ≠ R) (ny_:∀ p,by_ = some p → p.block ≠ R) (g:Bool) :
  Fcts w (((w4.setCell ⟨R,0,none⟩ (.bool g)).setCell ⟨R,1,none⟩ (.slice ay ny cy)).setCell ⟨R,2,none⟩ (.slice by_ my dy)) (fR R (.bool g) (.slice ay ny cy) (.slice by_ my dy) :: fN ay ny cy x by_ my dy y :: L):=by
 obtain ⟨t0,t1,t2,c4⟩:=three_set w4 R (.bool g) (.slice ay ny cy) (.slice by_ my dy) hO.cells
 have hfz:∀ i,i < 3 → (((w4.setCell ⟨R,0,none⟩ (.bool g)).setCell ⟨R,1,none⟩ (.slice ay ny cy)).setCell ⟨R,2,none⟩ (.slice by_ my dy)).frozen? ⟨R,i,none⟩ = false:=fun i hi => by
  have:=hO.fz i hi
  simpa using this
 have hb2:Below w2.heap.size w2 (((w4.setCell ⟨R,0,none⟩ (.bool g)).setCell ⟨R,1,none⟩ (.slice ay ny cy)).setCell ⟨R,2,none⟩ (.slice by_ my dy)):=hb.trans (c4.below hb.size (fun k hk => by omega))
 exact ((hF.step hb2).add (fN ay ny cy x by_ my dy y) ⟨sx.chg c4 (fun p hp _ => nx p hp),sy.chg c4 (fun p hp _ => ny_ p hp)⟩).add (fR R _ _ _) ⟨t0,t1,t2,hfz 0 (by decide),hfz 1 (by decide),hfz 2 (by decide),Nat.lt_of_lt_of_le hO.lt c4.size⟩

set_option maxHeartbeats 8000000 in
set_option maxRecDepth 100000 in
theorem ralive_any (w:World) (hT:Tab64 w):Calls Tryz.prog 8 #[] w fun e w' => e = .returned (.bool true) ∧ Below w.heap.size w w':=by
 obtain ⟨wa,hwa⟩:∃ x,w.alloc (.cells #[.int .u32 6] 33) = x:=⟨_,rfl⟩
 obtain ⟨wb,hwb⟩:∃ x,wa.alloc (.cells #[.int .u32 4] 33) = x:=⟨_,rfl⟩
 have hba:Below w.heap.size w wa:=by rw [← hwa]; exact bAl
 have hbb:Below wa.heap.size wa wb:=by rw [← hwb]; exact bAl
 have hB:=hba.trans (hbb.mono hba.size)
 have hsz:wa.heap.size = w.heap.size + 1:=by rw [← hwa]; simp
 have s6:Sl wb (some ⟨w.heap.size,0,none⟩) 1 1 [6]:=(sl_made (w:=wa) (g:=w.heap.size) (v:=6) (by rw [← hwa]; simp)).below hbb
 have s4:Sl wb (some ⟨wa.heap.size,0,none⟩) 1 1 [4]:=sl_made (v:=4) (by rw [← hwb]; simp)
 have KM:=ratMake_any true _ _ 1 1 1 1 [6] [4] wb s6 s4 (ok_one (by decide)) (ok_one (by decide)) (hT.below hB)
 rw [alive_make] at KM
 have HKM:=Hd KM
 have HT:=Hd (And.intro (hT.below hB) hB)
 clear hT hba hbb hB s6 s4 KM hsz
 go_enter Tryz.func8,Tryz.ntmps8
 go_wp2_with fail
 refine (Uh HKM).mono ?_
 rintro _ w1 ⟨v,rfl,ax,nx,cx,bx,mx,dx,rfl,sx,sy,_,_,b1⟩
 try dsimp only at sx sy
 unfold ratV
 have hF0:Fcts w w1 [fTab,fN ax nx cx [3] bx mx dx [2]]:=⟨(Uh HT).2.trans (b1.mono (Uh HT).2.size),fun f hf => by simp at hf; rcases hf with rfl | rfl; exact (Uh HT).1.below b1; exact ⟨sx,sy⟩⟩
 obtain ⟨w2,hw2⟩:∃ x,w1.alloc (.cells #[.bool true,.slice ax nx cx,.slice bx mx dx] 25) = x:=⟨_,rfl⟩
 have hF1:=hF0.box (.bool true) (.slice ax nx cx) (.slice bx mx dx) 25
 rw [hw2] at hF1
 have HF:=Hd hF1
 have t:=hF1.r w1.heap.size (.bool true) (.slice ax nx cx) (.slice bx mx dx) (.head _)
 have tc0:=t.c0
 have tc1:=t.c1
 have tc2:=t.c2
 have ne1:=World.new_ne w2 _ tc0
 have HI:=Hd (fun (W:World) => (by have K:=fromInt_any 2 (by decide) (by decide) W; rw [show decide ((2:Int) < 0) = false from rfl,show (2:Int).natAbs = 2 from rfl,limbs_small (v:=2) (by decide) (by decide)] at K; exact K:Calls Tryz.prog 14 #[.int .i64 2] W fun e w' => ∃ v,e = .returned v ∧ NewR W w' false [2] [1] v))
 clear HKM HT sx sy b1 hF0 hF1 t
 go_wp2_with fail
 go_region_held3 (fun w' => w'.cell? ⟨w1.heap.size,0,none⟩ = some (.bool true) ∧ w'.cell? ⟨w1.heap.size,1,none⟩ = some (.slice ax nx cx) ∧ w'.cell? ⟨w1.heap.size,2,none⟩ = some (.slice bx mx dx)) (first | go_keep | (exact ⟨e0,e1,e2⟩) | (exact ⟨g0,g1,g2⟩))
  (first
   | (go_at_call 14; refine (Uh HI _).mono ?_; rintro _ w3 ⟨v,rfl,ai,ni,ci,bi,mi,di,rfl,si,ti,_,_,b3⟩; (first | (have hO:Out w3 w2.heap.size:=(Out.made w2.drew).keep b3; have HO:=Hd hO; clear hO) | (have HN:=True.intro)); have hb3:Below w2.heap.size w2 w3:=(by first | exact (Below.refl _ _).drew.trans b3 | exact ((Below.refl w2.heap.size w2).drew.alloc (Nat.le_refl _) _).trans (b3.mono (by simp))); have e0:=(ck hb3 tc0); have e1:=(ck hb3 tc1); have e2:=(ck hb3 tc2); have hF3:=(((Uh HF).step hb3).add (fN ai ni ci [2] bi mi di [1]) ⟨si,ti⟩); have HA:=Hd (fun (W:World) (hb:Below w3.heap.size w3 W) => (by have hX:=hF3.step hb; have K:=ratAdd_any true false ax bx ai bi nx cx mx dx ni ci mi di [3] [2] [2] [1] W (hX.n ax nx cx [3] bx mx dx [2] (by simp)).num (hX.n ax nx cx [3] bx mx dx [2] (by simp)).den (si.below hb) (ti.below hb) (ok_one (by decide)) (ok_one (by decide)) (ok_one (by decide)) (ok_one (by decide)) (hX.tab (by simp)); rw [alive_add] at K; unfold ratV at K; exact K:Calls Tryz.prog 38 #[.agg #[.bool true,.slice ax nx cx,.slice bx mx dx],.agg #[.bool false,.slice ai ni ci,.slice bi mi di]] W fun e w' => ResR W w' false [1] [2] 0 e)); have HB3:=Hd hb3; have ne2:=World.new_ne w3 _ e0; unfold ratV; clear si ti b3 hb3 hF3)
   | (go_at_call 38; refine (Uh HA _ (by first | exact Below.refl _ _ | exact bAl)).mono ?_; rintro _ w4 ⟨v,rfl,ay,ny,cy,by_,my,dy,rfl,sy,uy,nY,nU,b4⟩; unfold ratV; (first | (have hO4:=(Uh HO).keep b4) | (have hO4:=(Out.made w3).keep b4) | (have HN4:=True.intro)); have hb4:Below w3.heap.size w3 w4:=(by first | exact b4 | exact ((Below.refl w3.heap.size w3).alloc (Nat.le_refl _) _).trans (b4.mono (by simp))); have g0:=(ck hb4 e0); have g1:=(ck hb4 e1); have g2:=(ck hb4 e2); (try (obtain ⟨i0,o0⟩:=hO4.cells 0 (by decide); obtain ⟨i1,o1⟩:=hO4.cells 1 (by decide); obtain ⟨i2,o2⟩:=hO4.cells 2 (by decide); have f0:=hO4.fz 0 (by decide); have f1:=hO4.fz 1 (by decide); have f2:=hO4.fz 2 (by decide); have HO4:=Hd hO4; clear hO4)); have ne3:=World.new_ne w4 _ g0; have HY:=Hd (And.intro sy (And.intro uy (And.intro nY (And.intro nU (And.intro b4 (And.intro hb4 ((Uh HB3).trans (hb4.mono (Uh HB3).size)))))))); clear sy uy nY nU b4 hb4))
 rotate_left 0
 focus
  obtain ⟨sy,uy,nY,nU,b4,hb4,hb24⟩:=Uh HY
  have hF5:=(((Uh HF).step hb24).add (fN ay ny cy [1] by_ my dy [2]) ⟨sy,uy⟩).box (.bool false) (.slice ay ny cy) (.slice by_ my dy) 25
  have HF5:=Hd hF5
  clear sy uy nY nU b4 hb4 hb24 HY hF5 HF HI HA HB3 tc0 tc1 tc2 e0 e1 e2 g0 g1 g2 ne1 ne2 ne3 hw2
  generalize w4.alloc (.cells #[.bool false,.slice ay ny cy,.slice by_ my dy] 25) = w5 at *
  generalize w4.heap.size = R at *
 rotate_left
 focus
  obtain ⟨sy,uy,nY,nU,b4,hb4,hb24⟩:=Uh HY
  have hF5:=alive_join (x:=[1]) (y:=[2]) (Uh HF) hb24 (Uh HB3).size (Uh HO4) sy uy (fun p hp h => by have:=nY p hp; simp at this; omega) (fun p hp h => by have:=nU p hp; simp at this; omega) false
  have HF5:=Hd hF5
  clear sy uy nY nU b4 hb4 hb24 HY hF5 HF HI HA HB3 HO4 tc0 tc1 tc2 e0 e1 e2 g0 g1 g2 ne1 ne2 ne3 hw2 o0 o1 o2 f0 f1 f2
  generalize ((w4.setCell ⟨w3.heap.size,0,none⟩ (.bool false)).setCell ⟨w3.heap.size,1,none⟩ (.slice ay ny cy)).setCell ⟨w3.heap.size,2,none⟩ (.slice by_ my dy) = w5 at *
  generalize w3.heap.size = R at *
 rotate_left
 focus
  obtain ⟨sy,uy,nY,nU,b4,hb4,hb24⟩:=Uh HY
  have hlt:=(Uh HO).lt
  have hF5:=alive_join (x:=[1]) (y:=[2]) (Uh HF) hb24 (Nat.le_refl _) (Uh HO4) sy uy (fun p hp h => by have:=nY p hp; omega) (fun p hp h => by have:=nU p hp; omega) false
  have HF5:=Hd hF5
  clear sy uy nY nU b4 hb4 hb24 HY hF5 HF HI HA HB3 HO4 HO tc0 tc1 tc2 e0 e1 e2 g0 g1 g2 ne1 ne2 ne3 hw2 o0 o1 o2 f0 f1 f2 hlt
  generalize ((w4.setCell ⟨w2.heap.size,0,none⟩ (.bool false)).setCell ⟨w2.heap.size,1,none⟩ (.slice ay ny cy)).setCell ⟨w2.heap.size,2,none⟩ (.slice by_ my dy) = w5 at *
  generalize w2.heap.size = R at *
 rotate_left
 all_goals
  have KP:=ratPrint_any false ay by_ ny cy my dy [1] [2] w5 ((Uh HF5).n ay ny cy [1] by_ my dy [2] (by simp)).num ((Uh HF5).n ay ny cy [1] by_ my dy [2] (by simp)).den (ok_one (by decide)) (ok_one (by decide)) ((Uh HF5).tab (by simp))
  unfold ratV at KP
  have HKP:=Hd KP
  have t:=(Uh HF5).r R (.bool false) (.slice ay ny cy) (.slice by_ my dy) (.head _)
  have tc0:=t.c0
  have tc1:=t.c1
  have tc2:=t.c2
  clear KP t
  go_wp2_with fail
  refine (Uh HKP).mono ?_
  rintro _ w6 ⟨s,er,rfl,hp,b6⟩
  obtain ⟨rfl,rfl⟩:=alive_print hp
  have HF6:=Hd ((Uh HF5).step b6)
  clear hp b6 HKP HF5 tc0 tc1 tc2
  go_wp2_with fail
  refine (rnum2_any _ _).mono ?_
  rintro _ _ ⟨rfl,hw⟩
  obtain rfl:=hw.symm
  clear hw
  go_wp2_with fail
  refine (rnum2_any _ _).mono ?_
  rintro _ _ ⟨rfl,hw⟩
  obtain rfl:=hw.symm
  clear hw
  go_wp2_with fail
  refine (rnum2_any _ _).mono ?_
  rintro _ _ ⟨rfl,hw⟩
  obtain rfl:=hw.symm
  clear hw
  have tx:=(Uh HF6).r w1.heap.size (.bool true) (.slice ax nx cx) (.slice bx mx dx) (by simp)
  have tx0:=tx.c0
  have tx1:=tx.c1
  have tx2:=tx.c2
  have KY:=ratMay_any true ax bx nx cx mx dx [3] [2] w6 ((Uh HF6).n ax nx cx [3] bx mx dx [2] (by simp)).num ((Uh HF6).n ax nx cx [3] bx mx dx [2] (by simp)).den (ok_one (by decide)) (ok_one (by decide)) ((Uh HF6).tab (by simp))
  rw [mayR_32] at KY
  unfold ratV at KY
  have HKY:=Hd KY
  clear tx KY
  go_wp2_with fail
  refine (Uh HKY).mono ?_
  rintro _ w7 ⟨rfl,b7⟩
  have hF7:=(Uh HF6).step b7
  have KC:=ratCmp_any true false ax bx ay by_ nx cx mx dx ny cy my dy [3] [2] [1] [2] w7 (hF7.n ax nx cx [3] bx mx dx [2] (by simp)).num (hF7.n ax nx cx [3] bx mx dx [2] (by simp)).den (hF7.n ay ny cy [1] by_ my dy [2] (by simp)).num (hF7.n ay ny cy [1] by_ my dy [2] (by simp)).den (ok_one (by decide)) (ok_one (by decide)) (ok_one (by decide)) (ok_one (by decide)) (hF7.tab (by simp))
  rw [alive_cmp] at KC
  unfold ratV at KC
  have HKC:=Hd KC
  have tx:=hF7.r w1.heap.size (.bool true) (.slice ax nx cx) (.slice bx mx dx) (by simp)
  have ty:=hF7.r R (.bool false) (.slice ay ny cy) (.slice by_ my dy) (by simp)
  have x0:=tx.c0
  have x1:=tx.c1
  have x2:=tx.c2
  have y0:=ty.c0
  have y1:=ty.c1
  have y2:=ty.c2
  have HF7:=Hd hF7
  clear HKY b7 hF7 KC tx ty tx0 tx1 tx2 HF6
  go_wp2_with fail
  refine (Uh HKC).mono ?_
  rintro _ w8 ⟨rfl,b8⟩
  have HF8:=Hd ((Uh HF7).step b8)
  clear b8 HKC HF7 x0 x1 x2 y0 y1 y2
  go_wp2_with fail
  go_ret
  exact ⟨rfl,(Uh HF8).bel⟩
theorem Tri.out {w:World} {R:Nat} {v0 v1 v2:Value} (h:Tri w R v0 v1 v2):Out w R :=
  ⟨fun i hi => by
    match i,hi with
    | 0,_ => exact ⟨_,h.c0⟩
    | 1,_ => exact ⟨_,h.c1⟩
    | 2,_ => exact ⟨_,h.c2⟩,
   fun i hi => by
    match i,hi with
    | 0,_ => exact h.f0
    | 1,_ => exact h.f1
    | 2,_ => exact h.f2,h.lt⟩
theorem Tri.chgW {S:Nat → Prop} {w w':World} {R:Nat} {v0 v1 v2:Value} (h:Tri w R v0 v1 v2) (k:Chg S w w') (hs:¬ S R):Tri w' R v0 v1 v2:=by
 have hf:∀ i,w'.frozen? ⟨R,i,none⟩ = w.frozen? ⟨R,i,none⟩:=fun i => World.frozen?_of_block (w:=w) (k.block R h.lt hs)
 exact ⟨k.cell hs h.c0,k.cell hs h.c1,k.cell hs h.c2,(hf 0).trans h.f0,(hf 1).trans h.f1,(hf 2).trans h.f2,Nat.lt_of_lt_of_le h.lt k.size⟩
set_option maxRecDepth 100000 in
set_option maxHeartbeats 16000000 in
theorem grat_any {w:World} {B:Nat} {v0 v1:Value} {es:List Ent} {w0:World} {L:List Pc} (h:LawSt w B v0 v1 es w0 L) (g1:Bool) (p q:Pc) (hp:p ∈ L) (hq:q ∈ L) (hn:p.n ≤ 35184372088000) (hm:q.n ≤ 35184372088000) (he:es.length ≤ 1000) :
  Calls Tryz.prog 27 #[.pointer (some ⟨B,0,none⟩),ratV g1 p.a p.n p.c q.a q.n q.c] w fun e w' => ∃ v,e = .returned v ∧ ∃ v0' v1' E1 E2,v = ratV g1 (some ⟨Ent.b E1,0,none⟩) p.n E1.c (some ⟨Ent.b E2,0,none⟩) q.n E2.c ∧ LawSt w' B v0' v1' (es ++ [E1] ++ [E2]) w0 (⟨some ⟨E2.b,0,none⟩,q.n,E2.c,q.xs⟩ :: ⟨some ⟨E1.b,0,none⟩,p.n,E1.c,p.xs⟩ :: L):=by
 have bx:=Box.made w g1 p.a p.n p.c q.a q.n q.c
 obtain ⟨wa,hwa⟩:∃ wa,ratBox w g1 p.a p.n p.c q.a q.n q.c = wa:=⟨_,rfl⟩
 rw [hwa] at bx
 unfold ratBox at hwa
 have hba:=bx.bel
 obtain ⟨wo,hwo⟩:∃ x,wa.alloc (.cells #[.bool false,.slice none 0 0,.slice none 0 0] 25) = x:=⟨_,rfl⟩
 have hbo:Below wa.heap.size wa wo:=by rw [← hwo]; exact bAl
 have hT:Tri wo wa.heap.size (.bool false) (.slice none 0 0) (.slice none 0 0):=by rw [← hwo]; exact Tri.made _ _ _ _ _
 have bx2:=bx.keep hbo
 have hB:=hba.trans (hbo.mono hba.size)
 have hO:=h.keep hB
 have p0:=bx2.d0
 have p1:=bx2.d1
 have p2:=bx2.d2
 have hlt:=bx.lt
 have hlt2:wa.heap.size < wo.heap.size:=hT.lt
 have hnb:¬ Own B v0 v1 w.heap.size:=fun ho => by have:=h.giv.own_lt ho; omega
 have hnr:¬ Own B v0 v1 wa.heap.size:=fun ho => by have:=h.giv.own_lt ho; omega
 have HK1:=Hd (fun (W:World) (hb:Below wo.heap.size wo W) => (hO.keep hb).natC p hp hn (by omega))
 have hne1:w.heap.size ≠ wa.heap.size:=by omega
 have hne3:wa.heap.size ≠ w.heap.size:=by omega
 have HW:=Hd (And.intro h.bel.size (And.intro hnb (And.intro hnr (And.intro hlt hlt2))))
 have HLt:=Hd (fun r (hr:r ∈ L) x (hx:r.a = some x) (hne:r.xs ≠ []) => (show x.block < w.heap.size from (h.all r hr).sl.block_lt hne x hx))
 have HT:=Hd hT
 clear bx bx2 hba hbo hB hnb hnr hT hO h
 unfold ratV
 go_enter Tryz.func27,Tryz.ntmps27
 go_wp2_with fail
 go_region_held3 (fun w' => w'.cell? ⟨w.heap.size,0,none⟩ = some (.bool g1) ∧ w'.cell? ⟨w.heap.size,1,none⟩ = some (.slice p.a p.n p.c) ∧ w'.cell? ⟨w.heap.size,2,none⟩ = some (.slice q.a q.n q.c)) (first | go_keep | (exact ⟨k0,k1,k2⟩) | (exact ⟨j0,j1,j2⟩))
  (first
   | (go_at_call_of 24 (Value.slice p.a p.n p.c); refine (Uh HK1 _ (Below.refl _ _).drew).mono ?_; rintro _ wk ⟨u0,u1,E1,rfl,hL1,hE1,hc1,hs1⟩; have hcd:Chg (Own B v0 v1) wo wk:=(Chg.of_drew wo).trans hc1; have k0:=hcd.cell (Uh HW).2.1 p0; have k1:=hcd.cell (Uh HW).2.1 p1; have k2:=hcd.cell (Uh HW).2.1 p2; have hT1:Tri wk wa.heap.size (.bool false) (.slice none 0 0) (.slice none 0 0):=(Uh HT).chgW hcd (Uh HW).2.2.1; have HS1:=Hd (And.intro hL1 (And.intro (show wo.heap.size ≤ E1.b from hE1) (And.intro (hs1 w.heap.size (by have:=(Uh HW).2.2.2; simp; omega) (Uh HW).2.1) (And.intro (hs1 wa.heap.size (by have:=(Uh HW).2.2.2; simp; omega) (Uh HW).2.2.1) (And.intro hT1 hcd.size))))); clear hL1 hE1 hc1 hs1 hcd hT1)
   | (go_at_call_of 24 (Value.slice q.a q.n q.c); refine ((Uh HS1).1.natC q (.tail _ hq) hm (by simp; omega)).mono ?_; rintro _ wj ⟨z0,z1,E2,rfl,hL2,hE2,hc2,hs2⟩; have j0:=hc2.cell (Uh HS1).2.2.1 k0; have j1:=hc2.cell (Uh HS1).2.2.1 k1; have j2:=hc2.cell (Uh HS1).2.2.1 k2; have hT2:Tri wj wa.heap.size (.bool false) (.slice none 0 0) (.slice none 0 0):=(Uh HS1).2.2.2.2.1.chgW hc2 (Uh HS1).2.2.2.1; have HO3:=Hd hT2; have q0:=hT2.c0; have q1:=hT2.c1; have q2:=hT2.c2; have r0:=hT2.f0; have r1:=hT2.f1; have r2:=hT2.f2; have HS2:=Hd (And.intro hL2 (And.intro (Uh HS1).2.1 (And.intro (show wo.heap.size ≤ E2.b from Nat.le_trans (Uh HS1).2.2.2.2.2 hE2) (hs2 wa.heap.size (Uh HS1).2.2.2.2.1.lt (Uh HS1).2.2.2.1)))); clear hL2 hE2 hc2 hs2 hT2))
 have H4:=Hd (three_set wj wa.heap.size (.bool g1) (.slice (some ⟨E1.b,0,none⟩) p.n E1.c) (.slice (some ⟨E2.b,0,none⟩) q.n E2.c) (Uh HO3).out.cells)
 clear q0 q1 q2 r0 r1 r2
 try go_wp2_with fail
 obtain ⟨t0,t1,t2,c4⟩:=Uh H4
 generalize ((wj.setCell ⟨wa.heap.size,0,none⟩ (.bool g1)).setCell ⟨wa.heap.size,1,none⟩ (.slice (some ⟨E1.b,0,none⟩) p.n E1.c)).setCell ⟨wa.heap.size,2,none⟩ (.slice (some ⟨E2.b,0,none⟩) q.n E2.c) = wf at *
 refine bodyPost_ret (by simp [results,Tryz.results27,go_sem,t0,t1,t2]; try rfl) rfl ?_
 obtain ⟨hL2,hE1,hE2,hNR⟩:=Uh HS2
 refine ⟨_,rfl,_,_,E1,E2,rfl,hL2.setR (Uh HO3).c0 c4 (by have:=(Uh HW).1; have:=(Uh HW).2.2.2.1; omega) hNR ?_⟩
 intro r hr x hx hne
 rcases List.mem_cons.1 hr with rfl | hr
 ·cases hx; have:=(Uh HW).2.2.2.2; simp only; omega
 ·rcases List.mem_cons.1 hr with rfl | hr
  ·cases hx; have:=(Uh HW).2.2.2.2; simp only; omega
  ·have:=Uh HLt r hr x hx hne
   have:=(Uh HW).2.2.2.1
   omega

set_option maxRecDepth 100000 in
set_option maxHeartbeats 16000000 in
theorem like_any (g1:Bool) (a1 b1 a2 b2:Option Addr) (n1 c1 m1 d1 n2 c2 m2 d2:Nat) (x1 y1:List Nat) (er:Int) (w:World) (hx1:Sl w a1 n1 c1 x1) (hy1:Sl w b1 m1 d1 y1) (hx2:Sl w a2 n2 c2 x1) (hy2:Sl w b2 m2 d2 y1) :
  Calls Tryz.prog 29 #[ratV g1 a1 n1 c1 b1 m1 d1,.int .i64 er,ratV g1 a2 n2 c2 b2 m2 d2,.int .i64 er] w fun e w' => e = .returned (.bool true) ∧ Below w.heap.size w w':=by
 have bx:=Box.made w g1 a1 n1 c1 b1 m1 d1
 obtain ⟨wa,hwa⟩:∃ wa,ratBox w g1 a1 n1 c1 b1 m1 d1 = wa:=⟨_,rfl⟩
 rw [hwa] at bx
 have by_:=Box.made wa g1 a2 n2 c2 b2 m2 d2
 obtain ⟨wb,hwb⟩:∃ wb,ratBox wa g1 a2 n2 c2 b2 m2 d2 = wb:=⟨_,rfl⟩
 rw [hwb] at by_
 have hba:Below w.heap.size w wa:=by rw [← hwa]; exact bAl
 have hbb:Below wa.heap.size wa wb:=by rw [← hwb]; exact bAl
 unfold ratBox at hwa hwb
 have bx2:=bx.keep hbb
 have by2:=by_
 have hB:=hba.trans (hbb.mono hba.size)
 have p0:=bx2.d0
 have p1:=bx2.d1
 have p2:=bx2.d2
 have p3:=by2.d0
 have p4:=by2.d1
 have p5:=by2.d2
 have HBo:=Hd hB
 have K:=fun (W:World) (hb:Below wb.heap.size wb W) => sameRat_any g1 g1 a1 b1 a2 b2 n1 c1 m1 d1 n2 c2 m2 d2 x1 y1 x1 y1 W ((hx1.below hB).below hb) ((hy1.below hB).below hb) ((hx2.below hB).below hb) ((hy2.below hB).below hb)
 have hs:sameR g1 x1 y1 g1 x1 y1 = true:=by unfold sameR; simp
 rw [hs] at K
 have HK:=Hd K
 have te:(er == er) = true:=by simp
 clear K hx1 hy1 hx2 hy2 bx by_ bx2 by2 hba hbb hB hs
 unfold ratV at HK ⊢
 go_enter Tryz.func29,Tryz.ntmps29
 go_wp2_with fail
 refine (rnum2_any er wb).mono ?_
 rintro _ _ ⟨rfl,hw⟩
 obtain rfl:=hw.symm
 clear hw
 go_wp2_with fail
 refine (Uh HK _ (Below.refl _ _)).mono ?_
 rintro _ w1 ⟨rfl,b1'⟩
 have HB1:=Hd ((Uh HBo).trans (b1'.mono (Uh HBo).size))
 clear b1' HK
 go_wp2_with fail
 go_ret
 exact ⟨rfl,Uh HB1⟩
set_option maxHeartbeats 4000000 in
theorem ratIncr_any (a:Option Addr) (n c:Nat) (v:Nat) (w:World) (h:Sl w a n c (limbs v)) (m:MayL (limbs v) = true) (hf:(limbs (v + 1)).length ≤ 2048) :
  Calls Tryz.prog 51 #[.slice a n c] w fun e w' => NewN w w' (v + 1) e:=by
 have H:=Hd h
 have hv:addL (limbs v) [1] = (limbs (v + 1),0):=by
  unfold addL
  have v1:val [1] = 1:=by simp [val]
  have m1:MayL [1] = true:=by decide
  rw [m,m1,(limbs_rep v).val,v1]
  exact fitL_ok (by omega)
 have HV:=Hd hv
 clear h hv
 go_enter Tryz.func51,Tryz.ntmps51
 go_wp2_with fail
 refine (ratOne_any w).mono ?_
 rintro _ w1 ⟨a1,m1,rfl,s1,_,b1⟩
 have K:=nadd_any a a1 n c m1 m1 (limbs v) [1] w1 ((Uh H).below b1) s1 (limbs_rep v).ok (by intro x hx; simp at hx; subst hx; decide)
 rw [Uh HV] at K
 have HK:=Hd K
 have HB:=Hd b1
 clear s1 b1 K
 go_wp2_with fail
 refine (Uh HK).mono ?_
 rintro _ w2 ⟨a2,m2,c2,rfl,s2,n2,b2⟩
 have H2:=Hd (And.intro s2 (And.intro n2 b2))
 clear s2 n2 b2 HK
 go_wp2_with fail
 refine (sure_any _ _ _).mono ?_
 rintro _ _ ⟨rfl,hw⟩
 obtain rfl:=hw.symm
 clear hw
 go_wp2_with fail
 go_ret
 exact ⟨a2,m2,c2,rfl,(Uh H2).1,fun x hx => Nat.le_trans (Uh HB).size ((Uh H2).2.1 x hx),(Uh HB).trans ((Uh H2).2.2.mono (Uh HB).size)⟩

def flQ (g:Bool) (X Y:Nat):Nat:=if g && decide (X % Y ≠ 0) then X / Y + 1 else X / Y
def flL (g:Bool) (X Y:Nat):Nat:=if g && decide (X % Y ≠ 0) then Y - X % Y else X % Y
def FlPost (g:Bool) (X Y:Nat) (w:World) (e:Ending) (w':World):Prop :=
 ∃ a n c b m d a' n' c',e = .returned (.tuple #[ratV (g && decide (flQ g X Y ≠ 0)) a n c b m d,.slice a' n' c']) ∧ Sl w' a n c (limbs (flQ g X Y)) ∧ Sl w' b m d [1] ∧ Sl w' a' n' c' (limbs (flL g X Y)) ∧ NewAt w.heap.size a ∧ NewAt w.heap.size b ∧ Below w.heap.size w w'
theorem limbs_len0 {v:Nat} {m:Nat} (h:(limbs v).length = m):decide (0 < m) = decide (v ≠ 0):=by
 by_cases e:v = 0
 ·have hl:limbs v = []:=by
   have:=limbs_val (xs:=[]) (by intro x hx; cases hx) (by simp [Norm])
   rw [e]; simpa [val] using this
  rw [hl] at h
  simp at h
  simp [e,← h]
 ·have:limbs v ≠ []:=limbs_ne (by omega)
  have h2:=List.length_pos_iff.2 this
  rw [decide_eq_true (by omega),decide_eq_true e]
theorem incr_fit {X Y:Nat} (hY:0 < Y) (h:X % Y ≠ 0):X / Y + 1 ≤ X:=by
 have h2:2 ≤ Y:=by
  rcases Nat.lt_or_ge Y 2 with k | k
  ·obtain rfl:Y = 1:=by omega
   rw [Nat.mod_one] at h
   exact absurd rfl h
  ·exact k
 have h3:=Nat.div_add_mod X Y
 have h4:2 * (X / Y) ≤ Y * (X / Y):=Nat.mul_le_mul_right _ h2
 rcases Nat.eq_zero_or_pos (X / Y) with e | e
 ·rw [e] at h3 ⊢; omega
 ·omega
def DtPost (w w':World) (Q L:Nat) (e:Ending):Prop:=∃ a n c ps a' n' c' qs,e = .returned (.tuple #[.slice a n c,.slice a' n' c']) ∧ Wide w' a n c Q ps ∧ n ≤ 10 ∧ Wide w' a' n' c' L qs ∧ n' ≤ 1000 ∧ Below w.heap.size w w'
theorem twice_div {v c d:Nat}:v / c / d = v / (c * d):=Nat.div_div_eq_div_mul v c d
theorem twice_mod {v c d:Nat}:v / c % d * c + v % c = v % (c * d):=by rw [Nat.mod_mul,Nat.mul_comm c,Nat.add_comm]

set_option maxRecDepth 100000 in
set_option maxHeartbeats 8000000 in
theorem divTwice_any (a0:Option Addr) (n0 c0 v:Nat) (ps:List Pc) (a1 a2:Option Addr) (n1 c1 n2 c2:Nat) (xs ys:List Nat) (w:World) (h0:Wide w a0 n0 c0 v ps) (hn0:n0 ≤ 10) (h1:Sl w a1 n1 c1 xs) (h2:Sl w a2 n2 c2 ys) (ox:Ok xs) (oy:Ok ys) (kx:MayL xs = true) (ky:MayL ys = true) (ex:xs ≠ []) (ey:ys ≠ []) :
  Calls Tryz.prog 57 #[.slice a0 n0 c0,.slice a1 n1 c1,.slice a2 n2 c2] w fun e w' => DtPost w w' (v / (val xs * val ys)) (v % (val xs * val ys)) e:=by
 rw [← twice_div,← twice_mod]
 have vx:=val_pos_of_may kx ex
 have vy:=val_pos_of_may ky ey
 have K1:=by_any w w a0 n0 c0 v ps a1 n1 c1 xs (Below.refl _ _) h0 hn0 h1 ox kx ex
 have HX:=Hd (And.intro h1 (And.intro ox kx))
 have HY:=Hd (And.intro h2 (And.intro oy (And.intro ky ey)))
 have mc:MayL (limbs (v % val xs)) = true:=may_small kx ox (Nat.le_of_lt (Nat.mod_lt _ vx))
 have md:MayL (limbs (v / val xs % val ys)) = true:=may_small ky oy (Nat.le_of_lt (Nat.mod_lt _ vy))
 obtain ⟨Q1,hQ1⟩:∃ r,v / val xs = r:=⟨_,rfl⟩
 obtain ⟨L1,hL1⟩:∃ r,v % val xs = r:=⟨_,rfl⟩
 rw [hQ1,hL1] at K1 ⊢
 rw [hL1] at mc
 rw [hQ1] at md
 have HK1:=Hd K1
 have HM:=Hd (And.intro mc md)
 clear K1 h0 h1 h2 kx ky ex ey vx vy mc md hQ1 hL1 ox oy
 go_enter Tryz.func57,Tryz.ntmps57
 go_wp2_with fail
 refine (Uh HK1).mono ?_
 rintro _ w1 ⟨aq,nq,cq,qs,al,ml,cl,rfl,wq,hnq,sl,b1⟩
 have K2:=by_any w1 w1 aq nq cq Q1 qs a2 n2 c2 ys (Below.refl _ _) wq hnq ((Uh HY).1.below b1) (Uh HY).2.1 (Uh HY).2.2.1 (Uh HY).2.2.2
 have HK2:=Hd K2
 have S1:=Hd sl
 have HB1:=Hd b1
 clear K2 wq hnq sl b1 HK1
 go_wp2_with fail
 refine (Uh HK2).mono ?_
 rintro _ w2 ⟨ap,np,cp,rs,ad,md,cd,rfl,wp,hnp,sd,b2⟩
 have HB2:=Hd ((Uh HB1).trans (b2.mono (Uh HB1).size))
 have K3:=product_any ad a1 md cd n1 c1 (limbs (Q1 % val ys)) xs w2 sd ((Uh HX).1.below (Uh HB2)) (limbs_rep _).ok (Uh HX).2.1 (Uh HM).2 (Uh HX).2.2
 rw [(limbs_rep _).val] at K3
 have HK3:=Hd K3
 have S1:=Hd ((Uh S1).below b2)
 have WP:=Hd (And.intro wp hnp)
 clear K3 wp hnp sd b2 HK2 HB1
 go_wp2_with fail
 refine (Uh HK3).mono ?_
 rintro _ w3 ⟨ae,ne,ce,es,rfl,we,hne,b3⟩
 have K4:=spread_any al ml cl (limbs L1) w3 ((Uh S1).below b3) (limbs_rep _).ok (Uh HM).1
 rw [(limbs_rep _).val] at K4
 have HK4:=Hd K4
 have WP:=Hd (And.intro ((Uh WP).1.below b3) (Uh WP).2)
 have WE:=Hd (And.intro we hne)
 have HB3:=Hd ((Uh HB2).trans (b3.mono (Uh HB2).size))
 clear K4 we hne b3 HK3 HB2 S1
 go_wp2_with fail
 refine (Uh HK4).mono ?_
 rintro _ w4 ⟨af,nf,cf,fs,rfl,wf,hnf,b4,_,_,_⟩
 have K5:=plus_any ae af ne ce nf cf _ _ es fs w4 ((Uh WE).1.below b4) wf (by have:=(Uh WE).2; omega) (by omega)
 have HK5:=Hd K5
 have WP:=Hd (And.intro ((Uh WP).1.below b4) (Uh WP).2)
 have HB4:=Hd ((Uh HB3).trans (b4.mono (Uh HB3).size))
 have hmx:max ne nf + 1 ≤ 1000:=by have:=(Uh WE).2; omega
 have HMX:=Hd hmx
 clear K5 wf hnf b4 HK4 HB3 WE hmx
 go_wp2_with fail
 refine (Uh HK5).mono ?_
 rintro _ w5 ⟨ag,ng,cg,gs,rfl,wg,hng,b5⟩
 have HF:=Hd (And.intro ((Uh WP).1.below b5) (And.intro (Uh WP).2 (And.intro wg (And.intro (Nat.le_trans hng (Uh HMX)) ((Uh HB4).trans (b5.mono (Uh HB4).size))))))
 clear wg hng b5 HK5 HB4 WP HMX
 go_wp2_with fail
 first | go_ret | go_ret2
 exact ⟨_,_,_,_,_,_,_,_,rfl,(Uh HF).1,(Uh HF).2.1,(Uh HF).2.2.1,(Uh HF).2.2.2.1,(Uh HF).2.2.2.2⟩
end Go.Proofs.YtmmeiebbnjjijaaGreatDoor
