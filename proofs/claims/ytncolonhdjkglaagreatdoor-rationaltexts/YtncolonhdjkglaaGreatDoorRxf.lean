/- Rl3 -/
import Derived.Test.YtncolonhdjkglaaGreatDoorRl4
import Derived.Deep.RegionHeld3
import Derived.Test.YtncolonhdjkglaaGreatDoorRxd
import Derived.Test.YtncolonhdjkglaaGreatDoorRxe
import Derived.Test.YtncolonhdjkglaaGreatDoorRx4
namespace Go.Proofs.YtncolonhdjkglaaGreatDoor
open Go.RowKit Go.Deep
set_option linter.unusedVariables false
theorem rnum2_any (e:Int) (w:World):Calls Tryz.prog 12 #[.int .i64 e] w fun x w' => x = .returned (.int .i64 e) ∧ w' = w:=by
 go_enter Tryz.func12,Tryz.ntmps12
 go_wp2
 go_ret
 exact ⟨rfl,rfl⟩
theorem limbs_small {v:Nat} (h0:0 < v) (h:v < 4294967296):limbs v = [v]:=by
 have:=limbs_val (xs:=[v]) (by intro x hx; simp at hx; subst hx; exact h) (by right; simp; omega)
 simpa [val] using this
theorem alive_make:makeL true [6] [4] = ⟨true,[3],[2],0⟩:=by
 have e:(MayL [6] && MayL [4]) = true:=by decide
 unfold makeL
 rw [if_pos e,if_neg (by decide)]
 have v6:val [6] = 6:=by simp [val]
 have v4:val [4] = 4:=by simp [val]
 have hg:Nat.gcd 6 4 = 2:=by decide
 rw [v6,v4,hg,show 6 / 2 = 3 from rfl,show 4 / 2 = 2 from rfl,limbs_small (by decide) (by decide),limbs_small (by decide) (by decide)]
 rfl
theorem mayR_32:MayR true [3] [2] = true:=by
 unfold MayR
 have v3:val [3] = 3:=by simp [val]
 have v2:val [2] = 2:=by simp [val]
 rw [v3,v2]
 decide
theorem mayR_21:MayR false [2] [1] = true:=by
 unfold MayR
 have v1:val [1] = 1:=by simp [val]
 have v2:val [2] = 2:=by simp [val]
 rw [v1,v2]
 decide
theorem mayR_12:MayR false [1] [2] = true:=by
 unfold MayR
 have v1:val [1] = 1:=by simp [val]
 have v2:val [2] = 2:=by simp [val]
 rw [v1,v2]
 decide
theorem alive_add:AddF true [3] [2] false [2] [1] = ((false,[1],[2]),0):=by
 have v1:val [1] = 1:=by simp [val]
 have v2:val [2] = 2:=by simp [val]
 have v3:val [3] = 3:=by simp [val]
 have eG:adG [2] [1] = 1:=by unfold adG; rw [v2,v1]; decide
 have eS:adS true [3] [2] false [2] [1] = (1,false):=by unfold adS; rw [eG,v1,v2,v3]; decide
 have eC:adC true [3] [2] false [2] [1] = 1:=by unfold adC; rw [eS,eG]; decide
 have eN:adN true [3] [2] false [2] [1] = 1:=by unfold adN; rw [eS,eC]; rfl
 have eD:adD true [3] [2] false [2] [1] = 2:=by unfold adD; rw [eC,eG,v1,v2]
 unfold AddF
 rw [mayR_32,mayR_21,eN,eD,eS,limbs_small (by decide) (by decide),limbs_small (by decide) (by decide)]
 have b1:bigN 1 = false:=by unfold bigN; rw [limbs_small (by decide) (by decide)]; decide
 have b2:bigN 2 = false:=by unfold bigN; rw [limbs_small (by decide) (by decide)]; decide
 rw [b1,b2]
 rfl
theorem alive_cmp:CmpF true [3] [2] false [1] [2] = -1:=by
 unfold CmpF
 rw [mayR_32,mayR_12]
 unfold cmpR signR
 decide
theorem alive_print {s:ByteArray} {e:Int} (h:PrR false [1] [2] s e):s = ⟨#[49,47,50]⟩ ∧ e = 0:=by
 have v1:val [1] = 1:=by simp [val]
 have v2:val [2] = 2:=by simp [val]
 cases h with
 | bad h => rw [mayR_12] at h; cases h
 | whole n h hy ht => simp at hy
 | frac n m h hy ht hm =>
  rw [v1] at ht ⊢
  rw [v2] at hm ⊢
  have e1:n = 1:=ht.uniq (by decide) ⟨by decide,by decide,.inl rfl⟩
  have e2:m = 1:=hm.uniq (by decide) ⟨by decide,by decide,.inl rfl⟩
  subst e1 e2
  exact ⟨by decide,rfl⟩

theorem sl_made {w:World} {g v:Nat} (h:w.cell? ⟨g,0,none⟩ = some (.int .u32 (v:Nat))):Sl w (some ⟨g,0,none⟩) 1 1 [v]:=by
 refine ⟨rfl,Nat.le_refl _,by unfold maxLen; omega,.inr ⟨g,0,rfl,fun i hi => ?_⟩⟩
 obtain rfl:i = 0:=by simp at hi; exact hi
 simpa using h
theorem ok_one {v:Nat} (h:v < 4294967296):Ok [v]:=fun x hx => by simp at hx; subst hx; exact h

theorem alive_join {w w2 w4:World} {R:Nat} {L:List Fct} {ay by_:Option Addr} {ny cy my dy:Nat} {x y:List Nat} (hF:Fcts w w2 L) (hb:Below w2.heap.size w2 w4) (hR:w2.heap.size ≤ R) (hO:Out w4 R) (sx:Sl w4 ay ny cy x) (sy:Sl w4 by_ my dy y) (nx:∀ p,ay = some p → p.block ≠ R) (ny_:∀ p,by_ = some p → p.block ≠ R) (g:Bool) :
  Fcts w (((w4.setCell ⟨R,0,none⟩ (.bool g)).setCell ⟨R,1,none⟩ (.slice ay ny cy)).setCell ⟨R,2,none⟩ (.slice by_ my dy)) (fR R (.bool g) (.slice ay ny cy) (.slice by_ my dy) :: fN ay ny cy x by_ my dy y :: L):=by
 obtain ⟨t0,t1,t2,c4⟩:=three_set w4 R (.bool g) (.slice ay ny cy) (.slice by_ my dy) hO.cells
 have hfz:∀ i,i < 3 → (((w4.setCell ⟨R,0,none⟩ (.bool g)).setCell ⟨R,1,none⟩ (.slice ay ny cy)).setCell ⟨R,2,none⟩ (.slice by_ my dy)).frozen? ⟨R,i,none⟩ = false:=fun i hi => by
  have:=hO.fz i hi
  simpa using this
 have hb2:Below w2.heap.size w2 (((w4.setCell ⟨R,0,none⟩ (.bool g)).setCell ⟨R,1,none⟩ (.slice ay ny cy)).setCell ⟨R,2,none⟩ (.slice by_ my dy)):=hb.trans (c4.below hb.size (fun k hk => by omega))
 exact ((hF.step hb2).add (fN ay ny cy x by_ my dy y) ⟨sx.chg c4 (fun p hp _ => nx p hp),sy.chg c4 (fun p hp _ => ny_ p hp)⟩).add (fR R _ _ _) ⟨t0,t1,t2,hfz 0 (by decide),hfz 1 (by decide),hfz 2 (by decide),Nat.lt_of_lt_of_le hO.lt c4.size⟩

set_option maxHeartbeats 8000000 in
set_option maxRecDepth 100000 in
theorem ralive_any (w:World) (hT:Tab64 w):Calls Tryz.prog 7 #[] w fun e w' => e = .returned (.bool true) ∧ Below w.heap.size w w':=by
 obtain ⟨wa,hwa⟩:∃ x,w.alloc (.cells #[.int .u32 6] 64) = x:=⟨_,rfl⟩
 obtain ⟨wb,hwb⟩:∃ x,wa.alloc (.cells #[.int .u32 4] 64) = x:=⟨_,rfl⟩
 have hba:Below w.heap.size w wa:=by rw [← hwa]; exact bAl
 have hbb:Below wa.heap.size wa wb:=by rw [← hwb]; exact bAl
 have hB:=hba.trans (hbb.mono hba.size)
 have hsz:wa.heap.size = w.heap.size + 1:=by rw [← hwa]; simp
 have s6:Sl wb (some ⟨w.heap.size,0,none⟩) 1 1 [6]:=(sl_made (w:=wa) (g:=w.heap.size) (v:=6) (by rw [← hwa]; simp)).below hbb
 have s4:Sl wb (some ⟨wa.heap.size,0,none⟩) 1 1 [4]:=sl_made (v:=4) (by rw [← hwb]; simp)
 have KM:=ratMake_any true _ _ 1 1 1 1 [6] [4] wb s6 s4 (ok_one (by decide)) (ok_one (by decide)) (hT.below hB)
 rw [alive_make] at KM
 have HKM:=Hd KM
 have HT:=Hd (And.intro (hT.below hB) hB)
 clear hT hba hbb hB s6 s4 KM hsz
 go_enter Tryz.func7,Tryz.ntmps7
 go_wp2_with fail
 refine (Uh HKM).mono ?_
 rintro _ w1 ⟨v,rfl,ax,nx,cx,bx,mx,dx,rfl,sx,sy,_,_,b1⟩
 try dsimp only at sx sy
 unfold ratV
 have hF0:Fcts w w1 [fTab,fN ax nx cx [3] bx mx dx [2]]:=⟨(Uh HT).2.trans (b1.mono (Uh HT).2.size),fun f hf => by simp at hf; rcases hf with rfl | rfl; exact (Uh HT).1.below b1; exact ⟨sx,sy⟩⟩
 obtain ⟨w2,hw2⟩:∃ x,w1.alloc (.cells #[.bool true,.slice ax nx cx,.slice bx mx dx] 25) = x:=⟨_,rfl⟩
 have hF1:=hF0.box (.bool true) (.slice ax nx cx) (.slice bx mx dx) 25
 rw [hw2] at hF1
 have HF:=Hd hF1
 have t:=hF1.r w1.heap.size (.bool true) (.slice ax nx cx) (.slice bx mx dx) (.head _)
 have tc0:=t.c0
 have tc1:=t.c1
 have tc2:=t.c2
 have ne1:=World.new_ne w2 _ tc0
 have HI:=Hd (fun (W:World) => (by have K:=fromInt_any 2 (by decide) (by decide) W; rw [show decide ((2:Int) < 0) = false from rfl,show (2:Int).natAbs = 2 from rfl,limbs_small (v:=2) (by decide) (by decide)] at K; exact K:Calls Tryz.prog 23 #[.int .i64 2] W fun e w' => ∃ v,e = .returned v ∧ NewR W w' false [2] [1] v))
 clear HKM HT sx sy b1 hF0 hF1 t
 go_wp2_with fail
 go_region_held3 (fun w' => w'.cell? ⟨w1.heap.size,0,none⟩ = some (.bool true) ∧ w'.cell? ⟨w1.heap.size,1,none⟩ = some (.slice ax nx cx) ∧ w'.cell? ⟨w1.heap.size,2,none⟩ = some (.slice bx mx dx)) (first | go_keep | (exact ⟨e0,e1,e2⟩) | (exact ⟨g0,g1,g2⟩))
  (first
   | (go_at_call 23; refine (Uh HI _).mono ?_; rintro _ w3 ⟨v,rfl,ai,ni,ci,bi,mi,di,rfl,si,ti,_,_,b3⟩; (first | (have hO:Out w3 w2.heap.size:=(Out.made w2.drew).keep b3; have HO:=Hd hO; clear hO) | (have HN:=True.intro)); have hb3:Below w2.heap.size w2 w3:=(by first | exact (Below.refl _ _).drew.trans b3 | exact ((Below.refl w2.heap.size w2).drew.alloc (Nat.le_refl _) _).trans (b3.mono (by simp))); have e0:=(ck hb3 tc0); have e1:=(ck hb3 tc1); have e2:=(ck hb3 tc2); have hF3:=(((Uh HF).step hb3).add (fN ai ni ci [2] bi mi di [1]) ⟨si,ti⟩); have HA:=Hd (fun (W:World) (hb:Below w3.heap.size w3 W) => (by have hX:=hF3.step hb; have K:=ratAdd_any true false ax bx ai bi nx cx mx dx ni ci mi di [3] [2] [2] [1] W (hX.n ax nx cx [3] bx mx dx [2] (by simp)).num (hX.n ax nx cx [3] bx mx dx [2] (by simp)).den (si.below hb) (ti.below hb) (ok_one (by decide)) (ok_one (by decide)) (ok_one (by decide)) (ok_one (by decide)) (hX.tab (by simp)); rw [alive_add] at K; unfold ratV at K; exact K:Calls Tryz.prog 22 #[.agg #[.bool true,.slice ax nx cx,.slice bx mx dx],.agg #[.bool false,.slice ai ni ci,.slice bi mi di]] W fun e w' => ResR W w' false [1] [2] 0 e)); have HB3:=Hd hb3; have ne2:=World.new_ne w3 _ e0; unfold ratV; clear si ti b3 hb3 hF3)
   | (go_at_call 22; refine (Uh HA _ (by first | exact Below.refl _ _ | exact bAl)).mono ?_; rintro _ w4 ⟨v,rfl,ay,ny,cy,by_,my,dy,rfl,sy,uy,nY,nU,b4⟩; unfold ratV; (first | (have hO4:=(Uh HO).keep b4) | (have hO4:=(Out.made w3).keep b4) | (have HN4:=True.intro)); have hb4:Below w3.heap.size w3 w4:=(by first | exact b4 | exact ((Below.refl w3.heap.size w3).alloc (Nat.le_refl _) _).trans (b4.mono (by simp))); have g0:=(ck hb4 e0); have g1:=(ck hb4 e1); have g2:=(ck hb4 e2); (try (obtain ⟨i0,o0⟩:=hO4.cells 0 (by decide); obtain ⟨i1,o1⟩:=hO4.cells 1 (by decide); obtain ⟨i2,o2⟩:=hO4.cells 2 (by decide); have f0:=hO4.fz 0 (by decide); have f1:=hO4.fz 1 (by decide); have f2:=hO4.fz 2 (by decide); have HO4:=Hd hO4; clear hO4)); have ne3:=World.new_ne w4 _ g0; have HY:=Hd (And.intro sy (And.intro uy (And.intro nY (And.intro nU (And.intro b4 (And.intro hb4 ((Uh HB3).trans (hb4.mono (Uh HB3).size)))))))); clear sy uy nY nU b4 hb4))
 rotate_left 0
 focus
  obtain ⟨sy,uy,nY,nU,b4,hb4,hb24⟩:=Uh HY
  have hF5:=(((Uh HF).step hb24).add (fN ay ny cy [1] by_ my dy [2]) ⟨sy,uy⟩).box (.bool false) (.slice ay ny cy) (.slice by_ my dy) 25
  have HF5:=Hd hF5
  clear sy uy nY nU b4 hb4 hb24 HY hF5 HF HI HA HB3 tc0 tc1 tc2 e0 e1 e2 g0 g1 g2 ne1 ne2 ne3 hw2
  generalize w4.alloc (.cells #[.bool false,.slice ay ny cy,.slice by_ my dy] 25) = w5 at *
  generalize w4.heap.size = R at *
 rotate_left
 focus
  obtain ⟨sy,uy,nY,nU,b4,hb4,hb24⟩:=Uh HY
  have hF5:=alive_join (x:=[1]) (y:=[2]) (Uh HF) hb24 (Uh HB3).size (Uh HO4) sy uy (fun p hp h => by have:=nY p hp; simp at this; omega) (fun p hp h => by have:=nU p hp; simp at this; omega) false
  have HF5:=Hd hF5
  clear sy uy nY nU b4 hb4 hb24 HY hF5 HF HI HA HB3 HO4 tc0 tc1 tc2 e0 e1 e2 g0 g1 g2 ne1 ne2 ne3 hw2 o0 o1 o2 f0 f1 f2
  generalize ((w4.setCell ⟨w3.heap.size,0,none⟩ (.bool false)).setCell ⟨w3.heap.size,1,none⟩ (.slice ay ny cy)).setCell ⟨w3.heap.size,2,none⟩ (.slice by_ my dy) = w5 at *
  generalize w3.heap.size = R at *
 rotate_left
 focus
  obtain ⟨sy,uy,nY,nU,b4,hb4,hb24⟩:=Uh HY
  have hlt:=(Uh HO).lt
  have hF5:=alive_join (x:=[1]) (y:=[2]) (Uh HF) hb24 (Nat.le_refl _) (Uh HO4) sy uy (fun p hp h => by have:=nY p hp; omega) (fun p hp h => by have:=nU p hp; omega) false
  have HF5:=Hd hF5
  clear sy uy nY nU b4 hb4 hb24 HY hF5 HF HI HA HB3 HO4 HO tc0 tc1 tc2 e0 e1 e2 g0 g1 g2 ne1 ne2 ne3 hw2 o0 o1 o2 f0 f1 f2 hlt
  generalize ((w4.setCell ⟨w2.heap.size,0,none⟩ (.bool false)).setCell ⟨w2.heap.size,1,none⟩ (.slice ay ny cy)).setCell ⟨w2.heap.size,2,none⟩ (.slice by_ my dy) = w5 at *
  generalize w2.heap.size = R at *
 rotate_left
 all_goals
  have KP:=ratPrint_any false ay by_ ny cy my dy [1] [2] w5 ((Uh HF5).n ay ny cy [1] by_ my dy [2] (by simp)).num ((Uh HF5).n ay ny cy [1] by_ my dy [2] (by simp)).den (ok_one (by decide)) (ok_one (by decide)) ((Uh HF5).tab (by simp))
  unfold ratV at KP
  have HKP:=Hd KP
  have t:=(Uh HF5).r R (.bool false) (.slice ay ny cy) (.slice by_ my dy) (.head _)
  have tc0:=t.c0
  have tc1:=t.c1
  have tc2:=t.c2
  clear KP t
  go_wp2_with fail
  refine (Uh HKP).mono ?_
  rintro _ w6 ⟨s,er,rfl,hp,b6⟩
  obtain ⟨rfl,rfl⟩:=alive_print hp
  have HF6:=Hd ((Uh HF5).step b6)
  clear hp b6 HKP HF5 tc0 tc1 tc2
  go_wp2_with fail
  refine (rnum2_any _ _).mono ?_
  rintro _ _ ⟨rfl,hw⟩
  obtain rfl:=hw.symm
  clear hw
  go_wp2_with fail
  refine (rnum2_any _ _).mono ?_
  rintro _ _ ⟨rfl,hw⟩
  obtain rfl:=hw.symm
  clear hw
  go_wp2_with fail
  refine (rnum2_any _ _).mono ?_
  rintro _ _ ⟨rfl,hw⟩
  obtain rfl:=hw.symm
  clear hw
  have tx:=(Uh HF6).r w1.heap.size (.bool true) (.slice ax nx cx) (.slice bx mx dx) (by simp)
  have tx0:=tx.c0
  have tx1:=tx.c1
  have tx2:=tx.c2
  have KY:=ratMay_any true ax bx nx cx mx dx [3] [2] w6 ((Uh HF6).n ax nx cx [3] bx mx dx [2] (by simp)).num ((Uh HF6).n ax nx cx [3] bx mx dx [2] (by simp)).den (ok_one (by decide)) (ok_one (by decide)) ((Uh HF6).tab (by simp))
  rw [mayR_32] at KY
  unfold ratV at KY
  have HKY:=Hd KY
  clear tx KY
  go_wp2_with fail
  refine (Uh HKY).mono ?_
  rintro _ w7 ⟨rfl,b7⟩
  have hF7:=(Uh HF6).step b7
  have KC:=ratCmp_any true false ax bx ay by_ nx cx mx dx ny cy my dy [3] [2] [1] [2] w7 (hF7.n ax nx cx [3] bx mx dx [2] (by simp)).num (hF7.n ax nx cx [3] bx mx dx [2] (by simp)).den (hF7.n ay ny cy [1] by_ my dy [2] (by simp)).num (hF7.n ay ny cy [1] by_ my dy [2] (by simp)).den (ok_one (by decide)) (ok_one (by decide)) (ok_one (by decide)) (ok_one (by decide)) (hF7.tab (by simp))
  rw [alive_cmp] at KC
  unfold ratV at KC
  have HKC:=Hd KC
  have tx:=hF7.r w1.heap.size (.bool true) (.slice ax nx cx) (.slice bx mx dx) (by simp)
  have ty:=hF7.r R (.bool false) (.slice ay ny cy) (.slice by_ my dy) (by simp)
  have x0:=tx.c0
  have x1:=tx.c1
  have x2:=tx.c2
  have y0:=ty.c0
  have y1:=ty.c1
  have y2:=ty.c2
  have HF7:=Hd hF7
  clear HKY b7 hF7 KC tx ty tx0 tx1 tx2 HF6
  go_wp2_with fail
  refine (Uh HKC).mono ?_
  rintro _ w8 ⟨rfl,b8⟩
  have HF8:=Hd ((Uh HF7).step b8)
  clear b8 HKC HF7 x0 x1 x2 y0 y1 y2
  go_wp2_with fail
  go_ret
  exact ⟨rfl,(Uh HF8).bel⟩
theorem Ok.limbs (v:Nat):Ok (limbs v):=(limbs_rep v).ok
theorem Tri.out {w:World} {R:Nat} {v0 v1 v2:Value} (h:Tri w R v0 v1 v2):Out w R :=
  ⟨fun i hi => by
    match i,hi with
    | 0,_ => exact ⟨_,h.c0⟩
    | 1,_ => exact ⟨_,h.c1⟩
    | 2,_ => exact ⟨_,h.c2⟩,
   fun i hi => by
    match i,hi with
    | 0,_ => exact h.f0
    | 1,_ => exact h.f1
    | 2,_ => exact h.f2,h.lt⟩
theorem Tri.chg {w w':World} {R S:Nat} {v0 v1 v2:Value} (h:Tri w R v0 v1 v2) (c:Chg (fun k => k = S) w w') (hne:R ≠ S):Tri w' R v0 v1 v2:=by
 have hb:=c.block R h.lt hne
 have hc:∀ i,w'.cell? ⟨R,i,none⟩ = w.cell? ⟨R,i,none⟩:=fun i => by unfold World.cell?; simp only; rw [hb]
 have hf:∀ i,w'.frozen? ⟨R,i,none⟩ = w.frozen? ⟨R,i,none⟩:=fun i => by unfold World.frozen?; simp only; rw [hb]
 exact ⟨(hc 0).trans h.c0,(hc 1).trans h.c1,(hc 2).trans h.c2,(hf 0).trans h.f0,(hf 1).trans h.f1,(hf 2).trans h.f2,Nat.lt_of_lt_of_le h.lt c.size⟩
theorem Tri.chgW {S:Nat → Prop} {w w':World} {R:Nat} {v0 v1 v2:Value} (h:Tri w R v0 v1 v2) (k:Chg S w w') (hs:¬ S R):Tri w' R v0 v1 v2:=by
 have hf:∀ i,w'.frozen? ⟨R,i,none⟩ = w.frozen? ⟨R,i,none⟩:=fun i => World.frozen?_of_block (w:=w) (k.block R h.lt hs)
 exact ⟨k.cell hs h.c0,k.cell hs h.c1,k.cell hs h.c2,(hf 0).trans h.f0,(hf 1).trans h.f1,(hf 2).trans h.f2,Nat.lt_of_lt_of_le h.lt k.size⟩
set_option maxRecDepth 100000 in
set_option maxHeartbeats 16000000 in
theorem grat_any {w:World} {B:Nat} {v0 v1:Value} {es:List Ent} {w0:World} {L:List Pc} (h:LawSt w B v0 v1 es w0 L) (g1:Bool) (p q:Pc) (hp:p ∈ L) (hq:q ∈ L) (hn:p.n ≤ 35184372088000) (hm:q.n ≤ 35184372088000) (he:es.length ≤ 1000) :
  Calls Tryz.prog 5 #[.pointer (some ⟨B,0,none⟩),ratV g1 p.a p.n p.c q.a q.n q.c] w fun e w' => ∃ v,e = .returned v ∧ ∃ v0' v1' E1 E2,v = ratV g1 (some ⟨Ent.b E1,0,none⟩) p.n E1.c (some ⟨Ent.b E2,0,none⟩) q.n E2.c ∧ LawSt w' B v0' v1' (es ++ [E1] ++ [E2]) w0 (⟨some ⟨E2.b,0,none⟩,q.n,E2.c,q.xs⟩ :: ⟨some ⟨E1.b,0,none⟩,p.n,E1.c,p.xs⟩ :: L):=by
 have bx:=Box.made w g1 p.a p.n p.c q.a q.n q.c
 obtain ⟨wa,hwa⟩:∃ wa,ratBox w g1 p.a p.n p.c q.a q.n q.c = wa:=⟨_,rfl⟩
 rw [hwa] at bx
 unfold ratBox at hwa
 have hba:=bx.bel
 obtain ⟨wo,hwo⟩:∃ x,wa.alloc (.cells #[.bool false,.slice none 0 0,.slice none 0 0] 25) = x:=⟨_,rfl⟩
 have hbo:Below wa.heap.size wa wo:=by rw [← hwo]; exact bAl
 have hT:Tri wo wa.heap.size (.bool false) (.slice none 0 0) (.slice none 0 0):=by rw [← hwo]; exact Tri.made _ _ _ _ _
 have bx2:=bx.keep hbo
 have hB:=hba.trans (hbo.mono hba.size)
 have hO:=h.keep hB
 have p0:=bx2.d0
 have p1:=bx2.d1
 have p2:=bx2.d2
 have hlt:=bx.lt
 have hlt2:wa.heap.size < wo.heap.size:=hT.lt
 have hnb:¬ Own B v0 v1 w.heap.size:=fun ho => by have:=h.giv.own_lt ho; omega
 have hnr:¬ Own B v0 v1 wa.heap.size:=fun ho => by have:=h.giv.own_lt ho; omega
 have HK1:=Hd (fun (W:World) (hb:Below wo.heap.size wo W) => (hO.keep hb).natC p hp hn (by omega))
 have hne1:w.heap.size ≠ wa.heap.size:=by omega
 have hne3:wa.heap.size ≠ w.heap.size:=by omega
 have HW:=Hd (And.intro h.bel.size (And.intro hnb (And.intro hnr (And.intro hlt hlt2))))
 have HLt:=Hd (fun r (hr:r ∈ L) x (hx:r.a = some x) (hne:r.xs ≠ []) => (show x.block < w.heap.size from (h.all r hr).sl.block_lt hne x hx))
 have HT:=Hd hT
 clear bx bx2 hba hbo hB hnb hnr hT hO h
 unfold ratV
 go_enter Tryz.func5,Tryz.ntmps5
 go_wp2_with fail
 go_region_held3 (fun w' => w'.cell? ⟨w.heap.size,0,none⟩ = some (.bool g1) ∧ w'.cell? ⟨w.heap.size,1,none⟩ = some (.slice p.a p.n p.c) ∧ w'.cell? ⟨w.heap.size,2,none⟩ = some (.slice q.a q.n q.c)) (first | go_keep | (exact ⟨k0,k1,k2⟩) | (exact ⟨j0,j1,j2⟩))
  (first
   | (go_at_call_of 13 (Value.slice p.a p.n p.c); refine (Uh HK1 _ (Below.refl _ _).drew).mono ?_; rintro _ wk ⟨u0,u1,E1,rfl,hL1,hE1,hc1,hs1⟩; have hcd:Chg (Own B v0 v1) wo wk:=(Chg.of_drew wo).trans hc1; have k0:=hcd.cell (Uh HW).2.1 p0; have k1:=hcd.cell (Uh HW).2.1 p1; have k2:=hcd.cell (Uh HW).2.1 p2; have hT1:Tri wk wa.heap.size (.bool false) (.slice none 0 0) (.slice none 0 0):=(Uh HT).chgW hcd (Uh HW).2.2.1; have HS1:=Hd (And.intro hL1 (And.intro (show wo.heap.size ≤ E1.b from hE1) (And.intro (hs1 w.heap.size (by have:=(Uh HW).2.2.2; simp; omega) (Uh HW).2.1) (And.intro (hs1 wa.heap.size (by have:=(Uh HW).2.2.2; simp; omega) (Uh HW).2.2.1) (And.intro hT1 hcd.size))))); clear hL1 hE1 hc1 hs1 hcd hT1)
   | (go_at_call_of 13 (Value.slice q.a q.n q.c); refine ((Uh HS1).1.natC q (.tail _ hq) hm (by simp; omega)).mono ?_; rintro _ wj ⟨z0,z1,E2,rfl,hL2,hE2,hc2,hs2⟩; have j0:=hc2.cell (Uh HS1).2.2.1 k0; have j1:=hc2.cell (Uh HS1).2.2.1 k1; have j2:=hc2.cell (Uh HS1).2.2.1 k2; have hT2:Tri wj wa.heap.size (.bool false) (.slice none 0 0) (.slice none 0 0):=(Uh HS1).2.2.2.2.1.chgW hc2 (Uh HS1).2.2.2.1; have HO3:=Hd hT2; have q0:=hT2.c0; have q1:=hT2.c1; have q2:=hT2.c2; have r0:=hT2.f0; have r1:=hT2.f1; have r2:=hT2.f2; have HS2:=Hd (And.intro hL2 (And.intro (Uh HS1).2.1 (And.intro (show wo.heap.size ≤ E2.b from Nat.le_trans (Uh HS1).2.2.2.2.2 hE2) (hs2 wa.heap.size (Uh HS1).2.2.2.2.1.lt (Uh HS1).2.2.2.1)))); clear hL2 hE2 hc2 hs2 hT2))
 have H4:=Hd (three_set wj wa.heap.size (.bool g1) (.slice (some ⟨E1.b,0,none⟩) p.n E1.c) (.slice (some ⟨E2.b,0,none⟩) q.n E2.c) (Uh HO3).out.cells)
 clear q0 q1 q2 r0 r1 r2
 try go_wp2_with fail
 obtain ⟨t0,t1,t2,c4⟩:=Uh H4
 generalize ((wj.setCell ⟨wa.heap.size,0,none⟩ (.bool g1)).setCell ⟨wa.heap.size,1,none⟩ (.slice (some ⟨E1.b,0,none⟩) p.n E1.c)).setCell ⟨wa.heap.size,2,none⟩ (.slice (some ⟨E2.b,0,none⟩) q.n E2.c) = wf at *
 refine bodyPost_ret (by simp [results,Tryz.results5,go_sem,t0,t1,t2]; try rfl) rfl ?_
 obtain ⟨hL2,hE1,hE2,hNR⟩:=Uh HS2
 refine ⟨_,rfl,_,_,E1,E2,rfl,hL2.setR (Uh HO3).c0 c4 (by have:=(Uh HW).1; have:=(Uh HW).2.2.2.1; omega) hNR ?_⟩
 intro r hr x hx hne
 rcases List.mem_cons.1 hr with rfl | hr
 ·cases hx; have:=(Uh HW).2.2.2.2; simp only; omega
 ·rcases List.mem_cons.1 hr with rfl | hr
  ·cases hx; have:=(Uh HW).2.2.2.2; simp only; omega
  ·have:=Uh HLt r hr x hx hne
   have:=(Uh HW).2.2.2.1
   omega
set_option maxRecDepth 100000 in
set_option maxHeartbeats 64000000 in
theorem texts_any (g:Bool) (x y:List Nat) (a1:Option Addr) (n1 c1:Nat) (b1:Option Addr) (m1 d1:Nat) (a2:Option Addr) (n2 c2:Nat) (b2:Option Addr) (m2 d2:Nat) (pl:Int) (w:World) (ox:Ok x) (oy:Ok y) (hx1:Sl w a1 n1 c1 x) (hy1:Sl w b1 m1 d1 y) (hx2:Sl w a2 n2 c2 x) (hy2:Sl w b2 m2 d2 y) (hl:-9223372036854775808 ≤ pl) (hh:pl ≤ 9223372036854775807) (hT:Tab64 w) (nb1:a2 = none → c2 = 0) (nb2:b2 = none → d2 = 0) :
  Calls Tryz.prog 4 #[ratV g a1 n1 c1 b1 m1 d1,ratV g a2 n2 c2 b2 m2 d2,.int .i64 pl] w fun e w' => e = .returned (.bool true) ∧ Below w.heap.size w w':=by
 have bx:=Box.made w g a1 n1 c1 b1 m1 d1
 obtain ⟨wa,hwa⟩:∃ wa,ratBox w g a1 n1 c1 b1 m1 d1 = wa:=⟨_,rfl⟩
 rw [hwa] at bx
 have by_:=Box.made wa g a2 n2 c2 b2 m2 d2
 obtain ⟨wb,hwb⟩:∃ wb,ratBox wa g a2 n2 c2 b2 m2 d2 = wb:=⟨_,rfl⟩
 rw [hwb] at by_
 have hba:Below w.heap.size w wa:=by rw [← hwa]; exact bAl
 have hbb:Below wa.heap.size wa wb:=by rw [← hwb]; exact bAl
 unfold ratBox at hwa hwb
 have bx2:=bx.keep hbb
 have hB:=hba.trans (hbb.mono hba.size)
 have p0:=bx2.d0
 have p1:=bx2.d1
 have p2:=bx2.d2
 have q0:=by_.d0
 have q1:=by_.d1
 have q2:=by_.d2
 have HBo:=Hd hB
 have HS:=Hd (fun (W:World) (hb:Below wb.heap.size wb W) => And.intro ((hx1.below hB).below hb) (And.intro ((hy1.below hB).below hb) (And.intro ((hx2.below hB).below hb) (And.intro ((hy2.below hB).below hb) ((hT.below hB).below hb)))))
 have HO:=Hd (And.intro ox (And.intro oy (And.intro nb1 nb2)))
 have K1:=ratPrint_any g a1 b1 n1 c1 m1 d1 x y wb (Uh HS wb (Below.refl _ _)).1 (Uh HS wb (Below.refl _ _)).2.1 ox oy (Uh HS wb (Below.refl _ _)).2.2.2.2
 unfold ratV at K1 ⊢
 have HK1:=Hd K1
 clear K1 hx1 hy1 hx2 hy2 hT nb1 nb2 bx by_ bx2 hba hbb hB ox oy
 go_enter Tryz.func4,Tryz.ntmps4
 go_wp2_with fail
 refine (Uh HK1).mono ?_
 rintro _ w1 ⟨s1,e1,rfl,hP1,b1'⟩
 have f0:=(ck b1' q0)
 have f1:=(ck b1' q1)
 have f2:=(ck b1' q2)
 have g0:=(ck b1' p0)
 have g1:=(ck b1' p1)
 have g2:=(ck b1' p2)
 have K2:=wprint_any g a2 b2 n2 c2 m2 d2 x y w1 (Uh HS w1 b1').2.2.1 (Uh HS w1 b1').2.2.2.1 (Uh HO).1 (Uh HO).2.1
 unfold ratV at K2
 have HK2:=Hd K2
 have HB1:=Hd b1'
 have HP1:=Hd hP1
 clear b1' hP1 HK1 K2 p0 p1 p2 q0 q1 q2
 go_wp2_with fail
 refine (Uh HK2).mono ?_
 rintro _ w2 ⟨s2,e2,rfl,hP2,b2'⟩
 obtain ⟨rfl,rfl⟩:=(Uh HP1).uniq hP2
 have p0:=(ck b2' g0)
 have p1:=(ck b2' g1)
 have p2:=(ck b2' g2)
 have q0:=(ck b2' f0)
 have q1:=(ck b2' f1)
 have q2:=(ck b2' f2)
 have hB2:=(Uh HB1).trans (b2'.mono (Uh HB1).size)
 have K3:=rdec_any g a1 b1 n1 c1 m1 d1 x y pl w2 (Uh HS w2 hB2).1 (Uh HS w2 hB2).2.1 (Uh HO).1 (Uh HO).2.1 (Uh HS w2 hB2).2.2.2.2 rep0
 unfold ratV at K3
 have HK3:=Hd K3
 have HB2:=Hd hB2
 clear b2' hP2 HK2 K3 f0 f1 f2 g0 g1 g2 hB2 HB1 HP1
 go_wp2_with fail
 refine (Uh HK3).mono ?_
 rintro _ w3 ⟨s3,e3,rfl,hP3,b3'⟩
 have f0:=(ck b3' q0)
 have f1:=(ck b3' q1)
 have f2:=(ck b3' q2)
 have hB3:=(Uh HB2).trans (b3'.mono (Uh HB2).size)
 have K4:=wdec_any g a2 b2 n2 c2 m2 d2 x y pl w3 (Uh HS w3 hB3).2.2.1 (Uh HS w3 hB3).2.2.2.1 (Uh HO).1 (Uh HO).2.1 (Uh HO).2.2.1
 unfold ratV at K4
 have HK4:=Hd K4
 have HB3:=Hd hB3
 have HP3:=Hd hP3
 clear b3' hP3 HK3 K4 p0 p1 p2 q0 q1 q2 hB3 HB2
 go_wp2_with fail
 refine (Uh HK4).mono ?_
 rintro _ w4 ⟨s4,e4,rfl,hP4,b4'⟩
 obtain ⟨rfl,rfl⟩:=(Uh HP3).uniq hP4
 have HB4:=Hd ((Uh HBo).trans (((Uh HB3).trans (b4'.mono (Uh HB3).size)).mono (Uh HBo).size))
 have te1:(e1 == e1) = true:=by simp
 have te3:(e3 == e3) = true:=by simp
 clear b4' hP4 HK4 f0 f1 f2 HB3 HP3 HBo
 go_wp2_with fail
 refine (rnum2_any e1 w4).mono ?_
 rintro _ _ ⟨rfl,hw⟩
 obtain rfl:=hw.symm
 clear hw
 go_wp2_with fail
 refine (rnum2_any e3 w4).mono ?_
 rintro _ _ ⟨rfl,hw⟩
 obtain rfl:=hw.symm
 clear hw
 go_wp2_with fail
 go_ret
 exact ⟨rfl,Uh HB4⟩
end Go.Proofs.YtncolonhdjkglaaGreatDoor
