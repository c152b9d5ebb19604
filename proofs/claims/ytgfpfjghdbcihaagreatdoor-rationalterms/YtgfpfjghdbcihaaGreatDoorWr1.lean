/- Rl3 -/
import Derived.Test.YtgfpfjghdbcihaaGreatDoorRl4
import Derived.Deep.RegionHeld3
import Derived.Test.YtgfpfjghdbcihaaGreatDoorRv1
import Derived.Test.YtgfpfjghdbcihaaGreatDoorAdd
import Derived.Test.YtgfpfjghdbcihaaGreatDoorGiv2
import Derived.Test.YtgfpfjghdbcihaaGreatDoorMul
namespace Go.Proofs.YtgfpfjghdbcihaaGreatDoor
open Go.RowKit Go.Deep
set_option linter.unusedVariables false
theorem rnum2_any (e:Int) (w:World):Calls Tryz.prog 26 #[.int .i64 e] w fun x w' => x = .returned (.int .i64 e) ∧ w' = w:=by
 go_enter Tryz.func26,Tryz.ntmps26
 go_wp2
 go_ret
 exact ⟨rfl,rfl⟩
theorem limbs_small {v:Nat} (h0:0 < v) (h:v < 4294967296):limbs v = [v]:=by
 have:=limbs_val (xs:=[v]) (by intro x hx; simp at hx; subst hx; exact h) (by right; simp; omega)
 simpa [val] using this
theorem alive_make:makeL true [6] [4] = ⟨true,[3],[2],0⟩:=by
 have e:(MayL [6] && MayL [4]) = true:=by decide
 unfold makeL
 rw [if_pos e,if_neg (by decide)]
 have v6:val [6] = 6:=by simp [val]
 have v4:val [4] = 4:=by simp [val]
 have hg:Nat.gcd 6 4 = 2:=by decide
 rw [v6,v4,hg,show 6 / 2 = 3 from rfl,show 4 / 2 = 2 from rfl,limbs_small (by decide) (by decide),limbs_small (by decide) (by decide)]
 rfl
theorem mayR_32:MayR true [3] [2] = true:=by
 unfold MayR
 have v3:val [3] = 3:=by simp [val]
 have v2:val [2] = 2:=by simp [val]
 rw [v3,v2]
 decide
theorem mayR_21:MayR false [2] [1] = true:=by
 unfold MayR
 have v1:val [1] = 1:=by simp [val]
 have v2:val [2] = 2:=by simp [val]
 rw [v1,v2]
 decide
theorem mayR_12:MayR false [1] [2] = true:=by
 unfold MayR
 have v1:val [1] = 1:=by simp [val]
 have v2:val [2] = 2:=by simp [val]
 rw [v1,v2]
 decide
theorem alive_add:AddF true [3] [2] false [2] [1] = ((false,[1],[2]),0):=by
 have v1:val [1] = 1:=by simp [val]
 have v2:val [2] = 2:=by simp [val]
 have v3:val [3] = 3:=by simp [val]
 have eG:adG [2] [1] = 1:=by unfold adG; rw [v2,v1]; decide
 have eS:adS true [3] [2] false [2] [1] = (1,false):=by unfold adS; rw [eG,v1,v2,v3]; decide
 have eC:adC true [3] [2] false [2] [1] = 1:=by unfold adC; rw [eS,eG]; decide
 have eN:adN true [3] [2] false [2] [1] = 1:=by unfold adN; rw [eS,eC]; rfl
 have eD:adD true [3] [2] false [2] [1] = 2:=by unfold adD; rw [eC,eG,v1,v2]
 unfold AddF
 rw [mayR_32,mayR_21,eN,eD,eS,limbs_small (by decide) (by decide),limbs_small (by decide) (by decide)]
 have b1:bigN 1 = false:=by unfold bigN; rw [limbs_small (by decide) (by decide)]; decide
 have b2:bigN 2 = false:=by unfold bigN; rw [limbs_small (by decide) (by decide)]; decide
 rw [b1,b2]
 rfl
theorem alive_cmp:CmpF true [3] [2] false [1] [2] = -1:=by
 unfold CmpF
 rw [mayR_32,mayR_12]
 unfold cmpR signR
 decide
theorem alive_print {s:ByteArray} {e:Int} (h:PrR false [1] [2] s e):s = ⟨#[49,47,50]⟩ ∧ e = 0:=by
 have v1:val [1] = 1:=by simp [val]
 have v2:val [2] = 2:=by simp [val]
 cases h with
 | bad h => rw [mayR_12] at h; cases h
 | whole n h hy ht => simp at hy
 | frac n m h hy ht hm =>
  rw [v1] at ht ⊢
  rw [v2] at hm ⊢
  have e1:n = 1:=ht.uniq (by decide) ⟨by decide,by decide,.inl rfl⟩
  have e2:m = 1:=hm.uniq (by decide) ⟨by decide,by decide,.inl rfl⟩
  subst e1 e2
  exact ⟨by decide,rfl⟩

theorem sl_made {w:World} {g v:Nat} (h:w.cell? ⟨g,0,none⟩ = some (.int .u32 (v:Nat))):Sl w (some ⟨g,0,none⟩) 1 1 [v]:=by
 refine ⟨rfl,Nat.le_refl _,by unfold maxLen; omega,.inr ⟨g,0,rfl,fun i hi => ?_⟩⟩
 obtain rfl:i = 0:=by simp at hi; exact hi
 simpa using h
theorem ok_one {v:Nat} (h:v < 4294967296):Ok [v]:=fun x hx => by simp at hx; subst hx; exact h

theorem alive_join {w w2 w4:World} {R:Nat} {L:List Fct} {ay by_:Option Addr} {ny cy my dy:Nat} {x y:List Nat} (hF:Fcts w w2 L) (hb:Below w2.heap.size w2 w4) (hR:w2.heap.size ≤ R) (hO:Out w4 R) (sx:Sl w4 ay ny cy x) (sy:Sl w4 by_ my dy y) (nx:∀ p,ay = some p → p.block ≠ R) (ny_:∀ p,by_ = some p → p.block ≠ R) (g:Bool) :
  Fcts w (((w4.setCell ⟨R,0,none⟩ (.bool g)).setCell ⟨R,1,none⟩ (.slice ay ny cy)).setCell ⟨R,2,none⟩ (.slice by_ my dy)) (fR R (.bool g) (.slice ay ny cy) (.slice by_ my dy) :: fN ay ny cy x by_ my dy y :: L):=by
 obtain ⟨t0,t1,t2,c4⟩:=three_set w4 R (.bool g) (.slice ay ny cy) (.slice by_ my dy) hO.cells
 have hfz:∀ i,i < 3 → (((w4.setCell ⟨R,0,none⟩ (.bool g)).setCell ⟨R,1,none⟩ (.slice ay ny cy)).setCell ⟨R,2,none⟩ (.slice by_ my dy)).frozen? ⟨R,i,none⟩ = false:=fun i hi => by
  have:=hO.fz i hi
  simpa using this
 have hb2:Below w2.heap.size w2 (((w4.setCell ⟨R,0,none⟩ (.bool g)).setCell ⟨R,1,none⟩ (.slice ay ny cy)).setCell ⟨R,2,none⟩ (.slice by_ my dy)):=hb.trans (c4.below hb.size (fun k hk => by omega))
 exact ((hF.step hb2).add (fN ay ny cy x by_ my dy y) ⟨sx.chg c4 (fun p hp _ => nx p hp),sy.chg c4 (fun p hp _ => ny_ p hp)⟩).add (fR R _ _ _) ⟨t0,t1,t2,hfz 0 (by decide),hfz 1 (by decide),hfz 2 (by decide),Nat.lt_of_lt_of_le hO.lt c4.size⟩

set_option maxHeartbeats 8000000 in
set_option maxRecDepth 100000 in
theorem ralive_any (w:World) (hT:Tab64 w):Calls Tryz.prog 12 #[] w fun e w' => e = .returned (.bool true) ∧ Below w.heap.size w w':=by
 obtain ⟨wa,hwa⟩:∃ x,w.alloc (.cells #[.int .u32 6] 66) = x:=⟨_,rfl⟩
 obtain ⟨wb,hwb⟩:∃ x,wa.alloc (.cells #[.int .u32 4] 66) = x:=⟨_,rfl⟩
 have hba:Below w.heap.size w wa:=by rw [← hwa]; exact bAl
 have hbb:Below wa.heap.size wa wb:=by rw [← hwb]; exact bAl
 have hB:=hba.trans (hbb.mono hba.size)
 have hsz:wa.heap.size = w.heap.size + 1:=by rw [← hwa]; simp
 have s6:Sl wb (some ⟨w.heap.size,0,none⟩) 1 1 [6]:=(sl_made (w:=wa) (g:=w.heap.size) (v:=6) (by rw [← hwa]; simp)).below hbb
 have s4:Sl wb (some ⟨wa.heap.size,0,none⟩) 1 1 [4]:=sl_made (v:=4) (by rw [← hwb]; simp)
 have KM:=ratMake_any true _ _ 1 1 1 1 [6] [4] wb s6 s4 (ok_one (by decide)) (ok_one (by decide)) (hT.below hB)
 rw [alive_make] at KM
 have HKM:=Hd KM
 have HT:=Hd (And.intro (hT.below hB) hB)
 clear hT hba hbb hB s6 s4 KM hsz
 go_enter Tryz.func12,Tryz.ntmps12
 go_wp2_with fail
 refine (Uh HKM).mono ?_
 rintro _ w1 ⟨v,rfl,ax,nx,cx,bx,mx,dx,rfl,sx,sy,_,_,b1⟩
 try dsimp only at sx sy
 unfold ratV
 have hF0:Fcts w w1 [fTab,fN ax nx cx [3] bx mx dx [2]]:=⟨(Uh HT).2.trans (b1.mono (Uh HT).2.size),fun f hf => by simp at hf; rcases hf with rfl | rfl; exact (Uh HT).1.below b1; exact ⟨sx,sy⟩⟩
 obtain ⟨w2,hw2⟩:∃ x,w1.alloc (.cells #[.bool true,.slice ax nx cx,.slice bx mx dx] 25) = x:=⟨_,rfl⟩
 have hF1:=hF0.box (.bool true) (.slice ax nx cx) (.slice bx mx dx) 25
 rw [hw2] at hF1
 have HF:=Hd hF1
 have t:=hF1.r w1.heap.size (.bool true) (.slice ax nx cx) (.slice bx mx dx) (.head _)
 have tc0:=t.c0
 have tc1:=t.c1
 have tc2:=t.c2
 have ne1:=World.new_ne w2 _ tc0
 have HI:=Hd (fun (W:World) => (by have K:=fromInt_any 2 (by decide) (by decide) W; rw [show decide ((2:Int) < 0) = false from rfl,show (2:Int).natAbs = 2 from rfl,limbs_small (v:=2) (by decide) (by decide)] at K; exact K:Calls Tryz.prog 38 #[.int .i64 2] W fun e w' => ∃ v,e = .returned v ∧ NewR W w' false [2] [1] v))
 clear HKM HT sx sy b1 hF0 hF1 t
 go_wp2_with fail
 go_region_held3 (fun w' => w'.cell? ⟨w1.heap.size,0,none⟩ = some (.bool true) ∧ w'.cell? ⟨w1.heap.size,1,none⟩ = some (.slice ax nx cx) ∧ w'.cell? ⟨w1.heap.size,2,none⟩ = some (.slice bx mx dx)) (first | go_keep | (exact ⟨e0,e1,e2⟩) | (exact ⟨g0,g1,g2⟩))
  (first
   | (go_at_call 38; refine (Uh HI _).mono ?_; rintro _ w3 ⟨v,rfl,ai,ni,ci,bi,mi,di,rfl,si,ti,_,_,b3⟩; (first | (have hO:Out w3 w2.heap.size:=(Out.made w2.drew).keep b3; have HO:=Hd hO; clear hO) | (have HN:=True.intro)); have hb3:Below w2.heap.size w2 w3:=(by first | exact (Below.refl _ _).drew.trans b3 | exact ((Below.refl w2.heap.size w2).drew.alloc (Nat.le_refl _) _).trans (b3.mono (by simp))); have e0:=(ck hb3 tc0); have e1:=(ck hb3 tc1); have e2:=(ck hb3 tc2); have hF3:=(((Uh HF).step hb3).add (fN ai ni ci [2] bi mi di [1]) ⟨si,ti⟩); have HA:=Hd (fun (W:World) (hb:Below w3.heap.size w3 W) => (by have hX:=hF3.step hb; have K:=ratAdd_any true false ax bx ai bi nx cx mx dx ni ci mi di [3] [2] [2] [1] W (hX.n ax nx cx [3] bx mx dx [2] (by simp)).num (hX.n ax nx cx [3] bx mx dx [2] (by simp)).den (si.below hb) (ti.below hb) (ok_one (by decide)) (ok_one (by decide)) (ok_one (by decide)) (ok_one (by decide)) (hX.tab (by simp)); rw [alive_add] at K; unfold ratV at K; exact K:Calls Tryz.prog 37 #[.agg #[.bool true,.slice ax nx cx,.slice bx mx dx],.agg #[.bool false,.slice ai ni ci,.slice bi mi di]] W fun e w' => ResR W w' false [1] [2] 0 e)); have HB3:=Hd hb3; have ne2:=World.new_ne w3 _ e0; unfold ratV; clear si ti b3 hb3 hF3)
   | (go_at_call 37; refine (Uh HA _ (by first | exact Below.refl _ _ | exact bAl)).mono ?_; rintro _ w4 ⟨v,rfl,ay,ny,cy,by_,my,dy,rfl,sy,uy,nY,nU,b4⟩; unfold ratV; (first | (have hO4:=(Uh HO).keep b4) | (have hO4:=(Out.made w3).keep b4) | (have HN4:=True.intro)); have hb4:Below w3.heap.size w3 w4:=(by first | exact b4 | exact ((Below.refl w3.heap.size w3).alloc (Nat.le_refl _) _).trans (b4.mono (by simp))); have g0:=(ck hb4 e0); have g1:=(ck hb4 e1); have g2:=(ck hb4 e2); (try (obtain ⟨i0,o0⟩:=hO4.cells 0 (by decide); obtain ⟨i1,o1⟩:=hO4.cells 1 (by decide); obtain ⟨i2,o2⟩:=hO4.cells 2 (by decide); have f0:=hO4.fz 0 (by decide); have f1:=hO4.fz 1 (by decide); have f2:=hO4.fz 2 (by decide); have HO4:=Hd hO4; clear hO4)); have ne3:=World.new_ne w4 _ g0; have HY:=Hd (And.intro sy (And.intro uy (And.intro nY (And.intro nU (And.intro b4 (And.intro hb4 ((Uh HB3).trans (hb4.mono (Uh HB3).size)))))))); clear sy uy nY nU b4 hb4))
 rotate_left 0
 focus
  obtain ⟨sy,uy,nY,nU,b4,hb4,hb24⟩:=Uh HY
  have hF5:=(((Uh HF).step hb24).add (fN ay ny cy [1] by_ my dy [2]) ⟨sy,uy⟩).box (.bool false) (.slice ay ny cy) (.slice by_ my dy) 25
  have HF5:=Hd hF5
  clear sy uy nY nU b4 hb4 hb24 HY hF5 HF HI HA HB3 tc0 tc1 tc2 e0 e1 e2 g0 g1 g2 ne1 ne2 ne3 hw2
  generalize w4.alloc (.cells #[.bool false,.slice ay ny cy,.slice by_ my dy] 25) = w5 at *
  generalize w4.heap.size = R at *
 rotate_left
 focus
  obtain ⟨sy,uy,nY,nU,b4,hb4,hb24⟩:=Uh HY
  have hF5:=alive_join (x:=[1]) (y:=[2]) (Uh HF) hb24 (Uh HB3).size (Uh HO4) sy uy (fun p hp h => by have:=nY p hp; simp at this; omega) (fun p hp h => by have:=nU p hp; simp at this; omega) false
  have HF5:=Hd hF5
  clear sy uy nY nU b4 hb4 hb24 HY hF5 HF HI HA HB3 HO4 tc0 tc1 tc2 e0 e1 e2 g0 g1 g2 ne1 ne2 ne3 hw2 o0 o1 o2 f0 f1 f2
  generalize ((w4.setCell ⟨w3.heap.size,0,none⟩ (.bool false)).setCell ⟨w3.heap.size,1,none⟩ (.slice ay ny cy)).setCell ⟨w3.heap.size,2,none⟩ (.slice by_ my dy) = w5 at *
  generalize w3.heap.size = R at *
 rotate_left
 focus
  obtain ⟨sy,uy,nY,nU,b4,hb4,hb24⟩:=Uh HY
  have hlt:=(Uh HO).lt
  have hF5:=alive_join (x:=[1]) (y:=[2]) (Uh HF) hb24 (Nat.le_refl _) (Uh HO4) sy uy (fun p hp h => by have:=nY p hp; omega) (fun p hp h => by have:=nU p hp; omega) false
  have HF5:=Hd hF5
  clear sy uy nY nU b4 hb4 hb24 HY hF5 HF HI HA HB3 HO4 HO tc0 tc1 tc2 e0 e1 e2 g0 g1 g2 ne1 ne2 ne3 hw2 o0 o1 o2 f0 f1 f2 hlt
  generalize ((w4.setCell ⟨w2.heap.size,0,none⟩ (.bool false)).setCell ⟨w2.heap.size,1,none⟩ (.slice ay ny cy)).setCell ⟨w2.heap.size,2,none⟩ (.slice by_ my dy) = w5 at *
  generalize w2.heap.size = R at *
 rotate_left
 all_goals
  have KP:=ratPrint_any false ay by_ ny cy my dy [1] [2] w5 ((Uh HF5).n ay ny cy [1] by_ my dy [2] (by simp)).num ((Uh HF5).n ay ny cy [1] by_ my dy [2] (by simp)).den (ok_one (by decide)) (ok_one (by decide)) ((Uh HF5).tab (by simp))
  unfold ratV at KP
  have HKP:=Hd KP
  have t:=(Uh HF5).r R (.bool false) (.slice ay ny cy) (.slice by_ my dy) (.head _)
  have tc0:=t.c0
  have tc1:=t.c1
  have tc2:=t.c2
  clear KP t
  go_wp2_with fail
  refine (Uh HKP).mono ?_
  rintro _ w6 ⟨s,er,rfl,hp,b6⟩
  obtain ⟨rfl,rfl⟩:=alive_print hp
  have HF6:=Hd ((Uh HF5).step b6)
  clear hp b6 HKP HF5 tc0 tc1 tc2
  go_wp2_with fail
  refine (rnum2_any _ _).mono ?_
  rintro _ _ ⟨rfl,hw⟩
  obtain rfl:=hw.symm
  clear hw
  go_wp2_with fail
  refine (rnum2_any _ _).mono ?_
  rintro _ _ ⟨rfl,hw⟩
  obtain rfl:=hw.symm
  clear hw
  go_wp2_with fail
  refine (rnum2_any _ _).mono ?_
  rintro _ _ ⟨rfl,hw⟩
  obtain rfl:=hw.symm
  clear hw
  have tx:=(Uh HF6).r w1.heap.size (.bool true) (.slice ax nx cx) (.slice bx mx dx) (by simp)
  have tx0:=tx.c0
  have tx1:=tx.c1
  have tx2:=tx.c2
  have KY:=ratMay_any true ax bx nx cx mx dx [3] [2] w6 ((Uh HF6).n ax nx cx [3] bx mx dx [2] (by simp)).num ((Uh HF6).n ax nx cx [3] bx mx dx [2] (by simp)).den (ok_one (by decide)) (ok_one (by decide)) ((Uh HF6).tab (by simp))
  rw [mayR_32] at KY
  unfold ratV at KY
  have HKY:=Hd KY
  clear tx KY
  go_wp2_with fail
  refine (Uh HKY).mono ?_
  rintro _ w7 ⟨rfl,b7⟩
  have hF7:=(Uh HF6).step b7
  have KC:=ratCmp_any true false ax bx ay by_ nx cx mx dx ny cy my dy [3] [2] [1] [2] w7 (hF7.n ax nx cx [3] bx mx dx [2] (by simp)).num (hF7.n ax nx cx [3] bx mx dx [2] (by simp)).den (hF7.n ay ny cy [1] by_ my dy [2] (by simp)).num (hF7.n ay ny cy [1] by_ my dy [2] (by simp)).den (ok_one (by decide)) (ok_one (by decide)) (ok_one (by decide)) (ok_one (by decide)) (hF7.tab (by simp))
  rw [alive_cmp] at KC
  unfold ratV at KC
  have HKC:=Hd KC
  have tx:=hF7.r w1.heap.size (.bool true) (.slice ax nx cx) (.slice bx mx dx) (by simp)
  have ty:=hF7.r R (.bool false) (.slice ay ny cy) (.slice by_ my dy) (by simp)
  have x0:=tx.c0
  have x1:=tx.c1
  have x2:=tx.c2
  have y0:=ty.c0
  have y1:=ty.c1
  have y2:=ty.c2
  have HF7:=Hd hF7
  clear HKY b7 hF7 KC tx ty tx0 tx1 tx2 HF6
  go_wp2_with fail
  refine (Uh HKC).mono ?_
  rintro _ w8 ⟨rfl,b8⟩
  have HF8:=Hd ((Uh HF7).step b8)
  clear b8 HKC HF7 x0 x1 x2 y0 y1 y2
  go_wp2_with fail
  go_ret
  exact ⟨rfl,(Uh HF8).bel⟩
theorem Ok.limbs (v:Nat):Ok (limbs v):=(limbs_rep v).ok
theorem addF_lists {g1 g2:Bool} {x1 y1 x2 y2:List Nat}:Ok (AddF g1 x1 y1 g2 x2 y2).1.2.1 ∧ Ok (AddF g1 x1 y1 g2 x2 y2).1.2.2:=by
 unfold AddF
 split
 ·split
  ·exact ⟨Ok.nil,Ok.nil⟩
  ·exact ⟨Ok.limbs _,Ok.limbs _⟩
 ·exact ⟨Ok.nil,Ok.nil⟩
theorem Tri.out {w:World} {R:Nat} {v0 v1 v2:Value} (h:Tri w R v0 v1 v2):Out w R :=
  ⟨fun i hi => by
    match i,hi with
    | 0,_ => exact ⟨_,h.c0⟩
    | 1,_ => exact ⟨_,h.c1⟩
    | 2,_ => exact ⟨_,h.c2⟩,
   fun i hi => by
    match i,hi with
    | 0,_ => exact h.f0
    | 1,_ => exact h.f1
    | 2,_ => exact h.f2,h.lt⟩
theorem Tri.chg {w w':World} {R S:Nat} {v0 v1 v2:Value} (h:Tri w R v0 v1 v2) (c:Chg (fun k => k = S) w w') (hne:R ≠ S):Tri w' R v0 v1 v2:=by
 have hb:=c.block R h.lt hne
 have hc:∀ i,w'.cell? ⟨R,i,none⟩ = w.cell? ⟨R,i,none⟩:=fun i => by unfold World.cell?; simp only; rw [hb]
 have hf:∀ i,w'.frozen? ⟨R,i,none⟩ = w.frozen? ⟨R,i,none⟩:=fun i => by unfold World.frozen?; simp only; rw [hb]
 exact ⟨(hc 0).trans h.c0,(hc 1).trans h.c1,(hc 2).trans h.c2,(hf 0).trans h.f0,(hf 1).trans h.f1,(hf 2).trans h.f2,Nat.lt_of_lt_of_le h.lt c.size⟩
theorem Tri.chgW {S:Nat → Prop} {w w':World} {R:Nat} {v0 v1 v2:Value} (h:Tri w R v0 v1 v2) (k:Chg S w w') (hs:¬ S R):Tri w' R v0 v1 v2:=by
 have hf:∀ i,w'.frozen? ⟨R,i,none⟩ = w.frozen? ⟨R,i,none⟩:=fun i => World.frozen?_of_block (w:=w) (k.block R h.lt hs)
 exact ⟨k.cell hs h.c0,k.cell hs h.c1,k.cell hs h.c2,(hf 0).trans h.f0,(hf 1).trans h.f1,(hf 2).trans h.f2,Nat.lt_of_lt_of_le h.lt k.size⟩
set_option maxRecDepth 100000 in
set_option maxHeartbeats 16000000 in
theorem like_any (g1:Bool) (a1 b1 a2 b2:Option Addr) (n1 c1 m1 d1 n2 c2 m2 d2:Nat) (x1 y1:List Nat) (er:Int) (w:World) (hx1:Sl w a1 n1 c1 x1) (hy1:Sl w b1 m1 d1 y1) (hx2:Sl w a2 n2 c2 x1) (hy2:Sl w b2 m2 d2 y1) :
  Calls Tryz.prog 10 #[ratV g1 a1 n1 c1 b1 m1 d1,.int .i64 er,ratV g1 a2 n2 c2 b2 m2 d2,.int .i64 er] w fun e w' => e = .returned (.bool true) ∧ Below w.heap.size w w':=by
 have bx:=Box.made w g1 a1 n1 c1 b1 m1 d1
 obtain ⟨wa,hwa⟩:∃ wa,ratBox w g1 a1 n1 c1 b1 m1 d1 = wa:=⟨_,rfl⟩
 rw [hwa] at bx
 have by_:=Box.made wa g1 a2 n2 c2 b2 m2 d2
 obtain ⟨wb,hwb⟩:∃ wb,ratBox wa g1 a2 n2 c2 b2 m2 d2 = wb:=⟨_,rfl⟩
 rw [hwb] at by_
 have hba:Below w.heap.size w wa:=by rw [← hwa]; exact bAl
 have hbb:Below wa.heap.size wa wb:=by rw [← hwb]; exact bAl
 unfold ratBox at hwa hwb
 have bx2:=bx.keep hbb
 have by2:=by_
 have hB:=hba.trans (hbb.mono hba.size)
 have p0:=bx2.d0
 have p1:=bx2.d1
 have p2:=bx2.d2
 have p3:=by2.d0
 have p4:=by2.d1
 have p5:=by2.d2
 have HBo:=Hd hB
 have K:=fun (W:World) (hb:Below wb.heap.size wb W) => sameRat_any g1 g1 a1 b1 a2 b2 n1 c1 m1 d1 n2 c2 m2 d2 x1 y1 x1 y1 W ((hx1.below hB).below hb) ((hy1.below hB).below hb) ((hx2.below hB).below hb) ((hy2.below hB).below hb)
 have hs:sameR g1 x1 y1 g1 x1 y1 = true:=by unfold sameR; simp
 rw [hs] at K
 have HK:=Hd K
 have te:(er == er) = true:=by simp
 clear K hx1 hy1 hx2 hy2 bx by_ bx2 by2 hba hbb hB hs
 unfold ratV at HK ⊢
 go_enter Tryz.func10,Tryz.ntmps10
 go_wp2_with fail
 refine (rnum2_any er wb).mono ?_
 rintro _ _ ⟨rfl,hw⟩
 obtain rfl:=hw.symm
 clear hw
 go_wp2_with fail
 refine (Uh HK _ (Below.refl _ _)).mono ?_
 rintro _ w1 ⟨rfl,b1'⟩
 have HB1:=Hd ((Uh HBo).trans (b1'.mono (Uh HBo).size))
 clear b1' HK
 go_wp2_with fail
 go_ret
 exact ⟨rfl,Uh HB1⟩
theorem GivR.own_lt {w:World} {B:Nat} {v0 v1:Value} {es:List Ent} {rs:Nat → Value} (h:GivR w B v0 v1 es rs) {k:Nat} (hk:Own B v0 v1 k):k < w.heap.size:=by
 rcases hk with rfl | hk | hk
 ·exact h.cell0.2.2.2.2
 ·exact (Go.Proofs.YtgfpfjghdbcihaaGreatDoor.own_ge h.own0 k hk).2
 ·exact (Go.Proofs.YtgfpfjghdbcihaaGreatDoor.own_ge h.own1 k hk).2
theorem GivR.own_ge {w:World} {B:Nat} {v0 v1:Value} {es:List Ent} {rs:Nat → Value} (h:GivR w B v0 v1 es rs) {k:Nat} (hk:Own B v0 v1 k):B ≤ k:=by
 rcases hk with rfl | hk | hk
 ·exact Nat.le_refl _
 ·have:=(Go.Proofs.YtgfpfjghdbcihaaGreatDoor.own_ge h.own0 k hk).1; omega
 ·have:=(Go.Proofs.YtgfpfjghdbcihaaGreatDoor.own_ge h.own1 k hk).1; omega
theorem GivR.setR {w w':World} {B:Nat} {v0 v1:Value} {es:List Ent} {rs:Nat → Value} (h:GivR w B v0 v1 es rs) {R:Nat} {b:Bool} (hR:w.cell? ⟨R,0,none⟩ = some (.bool b)) (hc:Chg (fun j => j = R) w w') (hO:¬ Own B v0 v1 R):GivR w' B v0 v1 es rs :=
 h.chg hc (fun e => hO (by rw [← e]; exact .inl rfl)) (fun k hk e => hO (by rw [← e]; exact .inr (.inl hk))) (fun k hk e => hO (by rw [← e]; exact .inr (.inr hk))) (fun e he => (h.ents e he).ne hR)

structure GrPost (w w':World) (B:Nat) (v0 v1 v0' v1':Value) (es:List Ent) (rs:Nat → Value) (x y:List Nat) (E1 E2:Ent):Prop where
 x1:E1.xs = x
 x2:E2.xs = y
 n1:w.heap.size ≤ E1.b ∧ w.heap.size ≤ E1.b0
 n2:w.heap.size ≤ E2.b ∧ w.heap.size ≤ E2.b0
 giv:GivR w' B v0' v1' (es ++ [E1] ++ [E2]) rs
 chg:Chg (Own B v0 v1) w w'
 safe:∀ k,k < w.heap.size → ¬ Own B v0 v1 k → ¬ Own B v0' v1' k

set_option maxRecDepth 100000 in
set_option maxHeartbeats 16000000 in
theorem gratR_any (B:Nat) (v0 v1:Value) (es:List Ent) (rs:Nat → Value) (g1:Bool) (a:Option Addr) (n c:Nat) (x:List Nat) (b:Option Addr) (m d:Nat) (y:List Nat) (w:World) (h:GivR w B v0 v1 es rs) (hx:Sl w a n c x) (hy:Sl w b m d y) (lo:∀ z,b = some z → y ≠ [] → z.block < B) (hn:n ≤ 35184372088000) (hm:m ≤ 35184372088000) (he:es.length ≤ 5700000000000) :
  Calls Tryz.prog 9 #[.pointer (some ⟨B,0,none⟩),ratV g1 a n c b m d] w fun e w' => ∃ v,e = .returned v ∧ ∃ v0' v1' E1 E2,v = ratV g1 (some ⟨Ent.b E1,0,none⟩) n E1.c (some ⟨Ent.b E2,0,none⟩) m E2.c ∧ GrPost w w' B v0 v1 v0' v1' es rs x y E1 E2:=by
 have bx:=Box.made w g1 a n c b m d
 obtain ⟨wa,hwa⟩:∃ wa,ratBox w g1 a n c b m d = wa:=⟨_,rfl⟩
 rw [hwa] at bx
 unfold ratBox at hwa
 have hba:=bx.bel
 obtain ⟨wo,hwo⟩:∃ x,wa.alloc (.cells #[.bool false,.slice none 0 0,.slice none 0 0] 25) = x:=⟨_,rfl⟩
 have hbo:Below wa.heap.size wa wo:=by rw [← hwo]; exact bAl
 have hT:Tri wo wa.heap.size (.bool false) (.slice none 0 0) (.slice none 0 0):=by rw [← hwo]; exact Tri.made _ _ _ _ _
 have bx2:=bx.keep hbo
 have hB:=hba.trans (hbo.mono hba.size)
 have hO:=h.below hB
 have p0:=bx2.d0
 have p1:=bx2.d1
 have p2:=bx2.d2
 have hlt:=bx.lt
 have hlt2:wa.heap.size < wo.heap.size:=hT.lt
 have hnb:¬ Own B v0 v1 w.heap.size:=fun ho => by have:=h.own_lt ho; omega
 have hnr:¬ Own B v0 v1 wa.heap.size:=fun ho => by have:=h.own_lt ho; omega
 have HK1:=Hd (fun (W:World) (hb:Below wo.heap.size wo W) => gnatR_any B v0 v1 es rs a n c x W (hO.below hb) ((hx.below hB).below hb) hn (by omega))
 have HY:=Hd (And.intro (hy.below hB) (fun z hz hne ho => by have:=h.own_ge ho; have:=lo z hz hne; omega:∀ z,b = some z → y ≠ [] → ¬ Own B v0 v1 z.block))
 have hne1:w.heap.size ≠ wa.heap.size:=by omega
 have hne3:wa.heap.size ≠ w.heap.size:=by omega
 have HW:=Hd (And.intro hB.size (And.intro hnb (And.intro hnr (And.intro hlt hlt2))))
 have HT:=Hd hT
 have HCB:=Hd (show Chg (Own B v0 v1) w wo from Chg.of_below hB)
 have HE:=Hd he
 clear bx bx2 hba hbo hB hnb hnr hT hO h hx hy lo he
 unfold ratV
 go_enter Tryz.func9,Tryz.ntmps9
 go_wp2_with fail
 go_region_held3 (fun w' => w'.cell? ⟨w.heap.size,0,none⟩ = some (.bool g1) ∧ w'.cell? ⟨w.heap.size,1,none⟩ = some (.slice a n c) ∧ w'.cell? ⟨w.heap.size,2,none⟩ = some (.slice b m d)) (first | go_keep | (exact ⟨k0,k1,k2⟩) | (exact ⟨j0,j1,j2⟩))
  (first
   | (go_at_call_of 27 (Value.slice a n c); refine (Uh HK1 _ (Below.refl _ _).drew).mono ?_; rintro _ wk ⟨u0,u1,E1,rfl,hx1,hE1,hL1,hc1,hs1⟩; have hcd:Chg (Own B v0 v1) wo wk:=(Chg.of_drew wo).trans hc1; have k0:=hcd.cell (Uh HW).2.1 p0; have k1:=hcd.cell (Uh HW).2.1 p1; have k2:=hcd.cell (Uh HW).2.1 p2; have hT1:Tri wk wa.heap.size (.bool false) (.slice none 0 0) (.slice none 0 0):=(Uh HT).chgW hcd (Uh HW).2.2.1; have HS1:=Hd (And.intro hL1 (And.intro (And.intro hx1 (show wo.heap.size ≤ E1.b ∧ wo.heap.size ≤ E1.b0 from hE1)) (And.intro (hs1 w.heap.size (by have:=(Uh HW).2.2.2; simp; omega) (Uh HW).2.1) (And.intro (hs1 wa.heap.size (by have:=(Uh HW).2.2.2; simp; omega) (Uh HW).2.2.1) (And.intro hT1 (And.intro hcd.size ((Uh HY).1.chg hcd (Uh HY).2))))))); have HC1:=Hd (And.intro hcd hs1); clear hL1 hx1 hE1 hc1 hs1 hcd hT1)
   | (go_at_call_of 27 (Value.slice b m d); refine (gnatR_any B u0 u1 (es ++ [E1]) rs b m d y _ (Uh HS1).1 (Uh HS1).2.2.2.2.2.2 hm (by have:=Uh HE; simp; omega)).mono ?_; rintro _ wj ⟨z0,z1,E2,rfl,hx2,hE2,hL2,hc2,hs2⟩; have j0:=hc2.cell (Uh HS1).2.2.1 k0; have j1:=hc2.cell (Uh HS1).2.2.1 k1; have j2:=hc2.cell (Uh HS1).2.2.1 k2; have hT2:Tri wj wa.heap.size (.bool false) (.slice none 0 0) (.slice none 0 0):=(Uh HS1).2.2.2.2.1.chgW hc2 (Uh HS1).2.2.2.1; have HO3:=Hd hT2; have q0:=hT2.c0; have q1:=hT2.c1; have q2:=hT2.c2; have r0:=hT2.f0; have r1:=hT2.f1; have r2:=hT2.f2; have HS2:=Hd (And.intro hL2 (And.intro (Uh HS1).2.1 (And.intro (And.intro hx2 (show wo.heap.size ≤ E2.b ∧ wo.heap.size ≤ E2.b0 from ⟨Nat.le_trans (Uh HS1).2.2.2.2.2.1 hE2.1,Nat.le_trans (Uh HS1).2.2.2.2.2.1 hE2.2⟩)) (hs2 wa.heap.size (Uh HS1).2.2.2.2.1.lt (Uh HS1).2.2.2.1)))); have HC2:=Hd (And.intro hc2 hs2); clear hL2 hx2 hE2 hc2 hs2 hT2))
 have H4:=Hd (three_set wj wa.heap.size (.bool g1) (.slice (some ⟨E1.b,0,none⟩) n E1.c) (.slice (some ⟨E2.b,0,none⟩) m E2.c) (Uh HO3).out.cells)
 clear q0 q1 q2 r0 r1 r2
 try go_wp2_with fail
 obtain ⟨t0,t1,t2,c4⟩:=Uh H4
 generalize ((wj.setCell ⟨wa.heap.size,0,none⟩ (.bool g1)).setCell ⟨wa.heap.size,1,none⟩ (.slice (some ⟨E1.b,0,none⟩) n E1.c)).setCell ⟨wa.heap.size,2,none⟩ (.slice (some ⟨E2.b,0,none⟩) m E2.c) = wf at *
 refine bodyPost_ret (by simp [results,Tryz.results9,go_sem,t0,t1,t2]; try rfl) rfl ?_
 obtain ⟨hL2,⟨hX1,hE1⟩,⟨hX2,hE2⟩,hNR⟩:=Uh HS2
 refine ⟨_,rfl,_,_,E1,E2,rfl,⟨hX1,hX2,?_,?_,hL2.setR (Uh HO3).c0 c4 hNR,?_,?_⟩⟩
 ·have:=(Uh HW).1; omega
 ·have:=(Uh HW).1; omega
 ·have hB:=Uh HCB
  have hcd:=(Uh HC1).1
  have hc2:=(Uh HC2).1
  refine ⟨c4.os.trans (hc2.os.trans (hcd.os.trans hB.os)),c4.tape.trans (hc2.tape.trans (hcd.tape.trans hB.tape)),c4.output.trans (hc2.output.trans (hcd.output.trans hB.output)),Nat.le_trans hB.size (Nat.le_trans hcd.size (Nat.le_trans hc2.size c4.size)),fun k hk hS => ?_⟩
  have k1:k < wo.heap.size:=Nat.lt_of_lt_of_le hk hB.size
  have k2:k < wk.heap.size:=Nat.lt_of_lt_of_le k1 hcd.size
  have k3:k < wj.heap.size:=Nat.lt_of_lt_of_le k2 hc2.size
  rw [c4.block k k3 (fun e => by have:=(Uh HW).2.2.2.1; omega),hc2.block k k2 ((Uh HC1).2 k k1 hS),hcd.block k k1 hS,hB.block k hk hS]
 ·intro k hk hS
  have k1:k < wo.heap.size:=Nat.lt_of_lt_of_le hk (Uh HCB).size
  exact (Uh HC2).2 k (Nat.lt_of_lt_of_le k1 (Uh HC1).1.size) ((Uh HC1).2 k k1 hS)
def Ow (w:World) (B:Nat) (a:Option Addr) (n c:Nat) (xs:List Nat):Prop:=w.ownsRow B 66 1 (.slice a n c) n (vals xs)
def AtB (a:Option Addr) (k:Nat):Prop:=∃ x,a = some x ∧ x.block = k
theorem atB_some {g o:Nat}:AtB (some ⟨g,o,none⟩) g:=⟨_,rfl,rfl⟩
theorem atB_is {g o k:Nat} (h:AtB (some ⟨g,o,none⟩) k):k = g:=by obtain ⟨x,e,rfl⟩:=h; cases e; rfl
theorem atB_none {k:Nat} (h:AtB none k):False:=by obtain ⟨x,e,_⟩:=h; cases e
theorem atB_own {a:Option Addr} {n c k:Nat}:(Value.slice a n c).ownBlock = some k ↔ AtB a k:=by
 cases a with
 | none => exact ⟨fun h => (by cases h),fun h => (atB_none h).elim⟩
 | some x => exact ⟨fun h => ⟨x,rfl,by simpa [Value.ownBlock] using h⟩,fun ⟨y,e,h⟩ => (by cases e; simp [Value.ownBlock,h])⟩

theorem Ow.nil (w:World) (B:Nat):Ow w B none 0 0 []:=World.ownsRow_nil _ _ _ _
theorem Ow.len {w:World} {B n c:Nat} {a:Option Addr} {xs:List Nat} (h:Ow w B a n c xs):xs.length = n:=by have:=h.1; simpa [vals] using this
theorem Ow.sl {w:World} {B n c:Nat} {a:Option Addr} {xs:List Nat} (h:Ow w B a n c xs):Sl w a n c xs:=by
 obtain ⟨a',c',e,k,_⟩:=own_sl h
 cases e; exact k
theorem Ow.new {w:World} {B n c:Nat} {a:Option Addr} {xs:List Nat} (h:Ow w B a n c xs):NewAt B a:=by
 obtain ⟨a',c',e,_,k⟩:=own_sl h
 cases e; exact k
theorem Ow.lt {w:World} {B n c k:Nat} {a:Option Addr} {xs:List Nat} (h:Ow w B a n c xs) (hk:AtB a k):B ≤ k ∧ k < w.heap.size:=own_ge h k (atB_own.2 hk)
theorem Ow.mono {w:World} {B B' n c:Nat} {a:Option Addr} {xs:List Nat} (h:Ow w B a n c xs) (hb:B' ≤ B):Ow w B' a n c xs :=
 ⟨h.1,h.2.imp id (fun ⟨g,cap,cur,e,h1,h2⟩ => ⟨g,cap,cur,e,Nat.le_trans hb h1,h2⟩)⟩
theorem Ow.chg {S:Nat → Prop} {w w':World} {B n c:Nat} {a:Option Addr} {xs:List Nat} (h:Ow w B a n c xs) (k:Chg S w w') (hs:∀ k,AtB a k → ¬ S k):Ow w' B a n c xs :=
 ownsRow_chg h k (fun k hk => hs k (atB_own.1 hk))
theorem Ow.below {w w':World} {B n c:Nat} {a:Option Addr} {xs:List Nat} (h:Ow w B a n c xs) (k:Below w.heap.size w w'):Ow w' B a n c xs :=
 h.chg (S:=fun _ => False) (.of_below k) (fun _ _ => id)
theorem Ow.form {w:World} {B n c:Nat} {a:Option Addr} {xs:List Nat} (h:Ow w B a n c xs) (hn:0 < n):∃ g,a = some ⟨g,0,none⟩ ∧ B ≤ g ∧ g < w.heap.size:=by
 obtain ⟨g,cap,e,h1,h2⟩:=World.ownsRow.form h hn
 cases e
 exact ⟨g,rfl,h1,h2⟩
theorem Ow.shape {w:World} {B n c:Nat} {a:Option Addr} {xs:List Nat} (h:Ow w B a n c xs):(a = none ∧ n = 0 ∧ c = 0) ∨ ∃ g,a = some ⟨g,0,none⟩:=by
 rcases h.2 with ⟨e,h0⟩ | ⟨g,cap,cur,e,_⟩
 ·cases e; exact .inl ⟨rfl,rfl,rfl⟩
 ·cases e; exact .inr ⟨g,rfl⟩
theorem Ow.cell {w:World} {B g n c i:Nat} {xs:List Nat} (h:Ow w B (some ⟨g,0,none⟩) n c xs) (hi:i < n):w.cell? ⟨g,i,none⟩ = some (.int .u32 (xs.getD i 0:Nat)):=by
 have:=World.ownsRow.cellAt h i (by omega)
 rw [this,vals_get (by rw [h.len]; exact hi)]
theorem Ow.froz {w:World} {B g n c i:Nat} {xs:List Nat} (h:Ow w B (some ⟨g,0,none⟩) n c xs):w.frozen? ⟨g,i,none⟩ = false:=World.ownsRow.frozenAt h i
theorem Ow.set {w:World} {B g n c:Nat} {xs:List Nat} (h:Ow w B (some ⟨g,0,none⟩) n c xs) (j x:Nat):Ow (w.setCell ⟨g,j,none⟩ (.int .u32 (x:Nat))) B (some ⟨g,0,none⟩) n c (xs.set j x):=by
 have:=(World.ownsRow.stored h j (.int .u32 (x:Nat))).1
 have e:(vals xs).set j (.int .u32 (x:Nat)) = vals (xs.set j x):=by simp [vals,List.map_set]
 rw [e] at this
 exact this
theorem Ow.take {w:World} {B n c m:Nat} {a:Option Addr} {xs:List Nat} (h:Ow w B a n c xs) (hm:m ≤ n):Ow w B a m c (xs.take m):=by
 have hl:=h.len
 refine ⟨by simp [vals,hl]; omega,?_⟩
 rcases h.2 with ⟨e,h0⟩ | ⟨g,cap,cur,e,h1,h2,h3,h4,h5,h6⟩
 ·cases e; left; exact ⟨by congr; omega,by omega⟩
 ·cases e
  right
  refine ⟨g,c,cur,rfl,h1,h2,by omega,h4,h5,?_⟩
  have e2:vals (xs.take m) = (vals xs).take m:=by simp [vals]
  rw [e2,← h6,List.take_take]
  congr 1; omega
theorem Ow.made (w:World) (n:Nat) (hn:n ≤ 70368744177600):Ow (w.alloc (.cells (madeCells #[.int .u32 0] n) 66)) w.heap.size (some ⟨w.heap.size,0,none⟩) n n (List.replicate n 0):=by
 have:=World.ownsRow_lit (base:=w.heap.size) (e:=66) (size:=1) w (madeCells #[.int .u32 0] n) n (Nat.le_refl _) (by unfold maxLen; omega) (by simp [madeCells])
 rw [toList_madeCells_one] at this
 have e:vals (List.replicate n 0) = List.replicate n (.int .u32 0):=by simp [vals]
 unfold Ow
 rw [e]
 exact this

def NewO (w w':World) (v:Nat) (e:Ending):Prop:=∃ a m c,e = .returned (.slice a m c) ∧ Ow w' w.heap.size a m c (limbs v) ∧ Below w.heap.size w w'
theorem TrimAt.limbs {xs:List Nat} {m:Nat} (h:TrimAt xs m) (ok:Ok xs):xs.take m = limbs (val xs):=(h.rep ok).eq
theorem limbs_ok (v:Nat):Ok (limbs v):=(limbs_rep v).ok
theorem limbs_norm (v:Nat):Norm (limbs v):=(limbs_rep v).norm
theorem limbs_v (v:Nat):val (limbs v) = v:=(limbs_rep v).val
theorem limbs_len {v j:Nat} (hv:v < 4294967296 ^ j):(limbs v).length ≤ j:=by
 rcases Nat.lt_or_ge j (limbs v).length with k | k
 ·exfalso
  have hz:limbs v ≠ []:=by intro e; rw [e] at k; simp at k
  have h1:=val_ge_of_norm (limbs_norm v) hz
  rw [limbs_v] at h1
  have h2:4294967296 ^ j ≤ 4294967296 ^ ((limbs v).length - 1):=Nat.pow_le_pow_right (by decide) (by omega)
  omega
 ·exact k
theorem limbs_lt (v:Nat):v < 4294967296 ^ (limbs v).length:=by have:=val_lt (limbs_ok v); rwa [limbs_v] at this
theorem limbs_eq_nil {v:Nat}:limbs v = [] ↔ v = 0:=by
 constructor
 ·intro h; have:=limbs_v v; rw [h] at this; exact this.symm
 ·rintro rfl; rfl

set_option maxHeartbeats 400000 in
theorem wnorm_some (b off n c:Nat) (xs:List Nat) (w:World) (hn:xs.length = n) (hnc:n ≤ c) (hcm:c ≤ maxLen) (hc:Cells w b off xs) :
  Calls Tryz.prog 64 #[.slice (some ⟨b,off,none⟩) n c] w fun e w' => ∃ m,TrimAt xs m ∧ e = .returned (.slice (some ⟨b,off,none⟩) m c) ∧ w' = w:=by
 unfold maxLen at hcm
 go_enter Tryz.func64,Tryz.ntmps64
 go_wp2
 go_loop [3] (fun i => ∃ k:Nat,k ≤ n ∧ i = .int .i64 k ∧ ∀ j,k ≤ j → xs.getD j 0 = 0) (fun i => (intOf i).toNat)
 case atStart => exact ⟨n,Nat.le_refl _,rfl,fun j hj => getD_ge (by omega)⟩
 case round =>
  obtain ⟨k,hk,rfl,hz⟩:=hrel
  by_cases h0:k = 0
  ·subst h0
   go_wp2
   go_ret
   exact ⟨0,⟨by omega,.inl rfl,hz⟩,rfl,rfl⟩
  ·have hpos:(0:Int) < (k:Int):=by omega
   have hk1:((k:Int) - 1).toNat = k - 1:=by omega
   have hcell:=hc (k - 1) (by omega)
   by_cases hx:xs.getD (k - 1) 0 = 0
   ·rw [hx] at hcell
    have Hx:Hid (xs.getD (k - 1) 0 = 0):=hx
    clear hx
    go_wp2
    go_round
    case rel => exact ⟨k - 1,by omega,by congr 1; omega,fun j hj => by
     by_cases e:j = k - 1
     ·rw [e]; exact Hx.out
     ·exact hz j (by omega)⟩
    case measure => simp [intOf]; omega
   ·have Hx:Hid (xs.getD (k - 1) 0 ≠ 0):=hx
    have hx':(((xs.getD (k - 1) 0:Nat):Int) == 0) = false:=by simp at hx ⊢; exact hx
    clear hx
    generalize hg:(((xs.getD (k - 1) 0:Nat):Int)) = g at hcell hx'
    clear hg
    go_wp2
    go_ret
    exact ⟨k,⟨by omega,.inr Hx.out,hz⟩,rfl,rfl⟩

theorem wnorm_nil (w:World) :
  Calls Tryz.prog 64 #[.slice none 0 0] w fun e w' => e = .returned (.slice none 0 0) ∧ w' = w:=by
 go_enter Tryz.func64,Tryz.ntmps64
 go_wp2
 go_loop [3] (fun i => i = .int .i64 0) (fun i => (intOf i).toNat)
 case atStart => rfl
 case round =>
  subst hrel
  go_wp2
  go_ret
  exact ⟨rfl,rfl⟩

theorem wnorm_any (a:Option Addr) (n c B:Nat) (xs:List Nat) (w:World) (h:Ow w B a n c xs) (ok:Ok xs) :
  Calls Tryz.prog 64 #[.slice a n c] w fun e w' => ∃ m,e = .returned (.slice a m c) ∧ m ≤ n ∧ Ow w B a m c (limbs (val xs)) ∧ w' = w:=by
 rcases h.shape with ⟨rfl,rfl,rfl⟩ | ⟨g,rfl⟩
 ·refine (wnorm_nil w).mono ?_
  rintro e w' ⟨rfl,rfl⟩
  have:xs = []:=List.eq_nil_of_length_eq_zero h.len
  subst this
  exact ⟨0,rfl,Nat.le_refl _,Ow.nil _ _,rfl⟩
 ·have hs:=h.sl
  refine (wnorm_some g 0 n c xs w hs.len hs.le hs.cap ?_).mono ?_
  ·intro i hi
   have:=h.cell (i:=i) (by rw [← h.len]; exact hi)
   simpa using this
  ·rintro e w' ⟨m,ht,rfl,rfl⟩
   have hm:m ≤ n:=by have:=ht.le; rw [h.len] at this; exact this
   refine ⟨m,rfl,hm,?_,rfl⟩
   have:=h.take hm
   rw [ht.limbs ok] at this
   exact this
end Go.Proofs.YtgfpfjghdbcihaaGreatDoor
