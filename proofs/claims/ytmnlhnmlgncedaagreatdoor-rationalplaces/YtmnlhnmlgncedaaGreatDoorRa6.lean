/- Ra4 -/
import Derived.Test.YtmnlhnmlgncedaaGreatDoorRa3
namespace Go.Proofs.YtmnlhnmlgncedaaGreatDoor
open Go.RowKit Go.Deep
set_option linter.unusedVariables false
def NewR (w w':World) (neg:Bool) (xs ys:List Nat) (v:Value):Prop :=
 ∃ a1 m1 c1 a2 m2 c2,v = ratV neg a1 m1 c1 a2 m2 c2 ∧ Sl w' a1 m1 c1 xs ∧ Sl w' a2 m2 c2 ys ∧ NewAt w.heap.size a1 ∧ NewAt w.heap.size a2 ∧ Below w.heap.size w w'

structure Box (w wa:World) (neg:Bool) (a1:Option Addr) (n1 c1:Nat) (a2:Option Addr) (n2 c2:Nat):Prop where
 bel:Below w.heap.size w wa
 lt:w.heap.size < wa.heap.size
 d0:wa.cell? ⟨w.heap.size,0,none⟩ = some (.bool neg)
 d1:wa.cell? ⟨w.heap.size,1,none⟩ = some (.slice a1 n1 c1)
 d2:wa.cell? ⟨w.heap.size,2,none⟩ = some (.slice a2 n2 c2)

theorem Box.made (w:World) (neg:Bool) (a1:Option Addr) (n1 c1:Nat) (a2:Option Addr) (n2 c2:Nat):Box w (ratBox w neg a1 n1 c1 a2 n2 c2) neg a1 n1 c1 a2 n2 c2 :=
 ⟨bAl,by simp [ratBox],by simp [ratBox],by simp [ratBox],by simp [ratBox]⟩
theorem Box.keep {w wa wb:World} {neg:Bool} {a1:Option Addr} {n1 c1:Nat} {a2:Option Addr} {n2 c2:Nat} (h:Box w wa neg a1 n1 c1 a2 n2 c2) (k:Below wa.heap.size wa wb):Box w wb neg a1 n1 c1 a2 n2 c2:=by
 have hc:∀ i,wb.cell? ⟨w.heap.size,i,none⟩ = wa.cell? ⟨w.heap.size,i,none⟩:=fun i => by unfold World.cell?; simp only; rw [k.block _ h.lt]
 exact ⟨h.bel.trans (k.mono h.bel.size),Nat.lt_of_lt_of_le h.lt k.size,(hc 0).trans h.d0,(hc 1).trans h.d1,(hc 2).trans h.d2⟩

theorem three_set (w1:World) (R:Nat) (v0 v1 v2:Value) (h:∀ i,i < 3 → ∃ v,w1.cell? ⟨R,i,none⟩ = some v) :
  (((w1.setCell ⟨R,0,none⟩ v0).setCell ⟨R,1,none⟩ v1).setCell ⟨R,2,none⟩ v2).cell? ⟨R,0,none⟩ = some v0 ∧
  (((w1.setCell ⟨R,0,none⟩ v0).setCell ⟨R,1,none⟩ v1).setCell ⟨R,2,none⟩ v2).cell? ⟨R,1,none⟩ = some v1 ∧
  (((w1.setCell ⟨R,0,none⟩ v0).setCell ⟨R,1,none⟩ v1).setCell ⟨R,2,none⟩ v2).cell? ⟨R,2,none⟩ = some v2 ∧
  Chg (fun j => j = R) w1 (((w1.setCell ⟨R,0,none⟩ v0).setCell ⟨R,1,none⟩ v1).setCell ⟨R,2,none⟩ v2):=by
 obtain ⟨x0,h0⟩:=h 0 (by decide)
 obtain ⟨x1,h1⟩:=h 1 (by decide)
 obtain ⟨x2,h2⟩:=h 2 (by decide)
 have s0:(w1.setCell ⟨R,0,none⟩ v0).cell? ⟨R,0,none⟩ = some v0:=World.cell?_setCell_same _ _ _ h0
 have s1:(w1.setCell ⟨R,0,none⟩ v0).cell? ⟨R,1,none⟩ = some x1:=by rw [World.cell?_setCell_other _ _ _ _ (by simp)]; exact h1
 have s2:(w1.setCell ⟨R,0,none⟩ v0).cell? ⟨R,2,none⟩ = some x2:=by rw [World.cell?_setCell_other _ _ _ _ (by simp)]; exact h2
 have t1:((w1.setCell ⟨R,0,none⟩ v0).setCell ⟨R,1,none⟩ v1).cell? ⟨R,1,none⟩ = some v1:=World.cell?_setCell_same _ _ _ s1
 have t2:((w1.setCell ⟨R,0,none⟩ v0).setCell ⟨R,1,none⟩ v1).cell? ⟨R,2,none⟩ = some x2:=by rw [World.cell?_setCell_other _ _ _ _ (by simp)]; exact s2
 refine ⟨?_,?_,World.cell?_setCell_same _ _ _ t2,((Chg.of_set (S:=fun j => j = R) _ _ _ _ rfl).trans (Chg.of_set (S:=fun j => j = R) _ _ _ _ rfl)).trans (Chg.of_set (S:=fun j => j = R) _ _ _ _ rfl)⟩
 ·rw [World.cell?_setCell_other _ _ _ _ (by simp),World.cell?_setCell_other _ _ _ _ (by simp)]; exact s0
 ·rw [World.cell?_setCell_other _ _ _ _ (by simp)]; exact t1

structure Out (w:World) (R:Nat):Prop where
 cells:∀ i,i < 3 → ∃ v,w.cell? ⟨R,i,none⟩ = some v
 fz:∀ i,i < 3 → w.frozen? ⟨R,i,none⟩ = false
 lt:R < w.heap.size
theorem Out.made (w:World):Out (w.alloc (.cells #[.bool false,.slice none 0 0,.slice none 0 0] 25)) w.heap.size:=by
 refine ⟨fun i hi => ?_,fun i hi => ?_,by simp⟩
 ·match i,hi with
  | 0,_ => exact ⟨.bool false,by simp⟩
  | 1,_ => exact ⟨.slice none 0 0,by simp⟩
  | 2,_ => exact ⟨.slice none 0 0,by simp⟩
 ·match i,hi with
  | 0,_ => simp
  | 1,_ => simp
  | 2,_ => simp
theorem Out.keep {w w':World} {R:Nat} (h:Out w R) (k:Below w.heap.size w w'):Out w' R:=by
 refine ⟨fun i hi => ?_,fun i hi => ?_,Nat.lt_of_lt_of_le h.lt k.size⟩
 ·obtain ⟨v,hv⟩:=h.cells i hi
  exact ⟨v,by rw [← hv]; unfold World.cell?; simp only; rw [k.block _ h.lt]⟩
 ·rw [← h.fz i hi]; unfold World.frozen?; simp only; rw [k.block _ h.lt]

theorem ratV_congr {g h:Bool} {a1:Option Addr} {n1 c1:Nat} {a2:Option Addr} {n2 c2:Nat} (e:g = h):ratV g a1 n1 c1 a2 n2 c2 = ratV h a1 n1 c1 a2 n2 c2:=by rw [e]

theorem ratMade_new {w wb w1 w2 w3 wf:World} {R:Nat} {aN aD:Option Addr} {mN cN mD cD:Nat} {xs ys:List Nat} (hb:Below w.heap.size w wb) (hR:w.heap.size ≤ R) (hRb:R < wb.heap.size)
  (sN:Sl w1 aN mN cN xs) (nN:NewAt wb.heap.size aN) (bN:Below wb.heap.size wb w1) (sD:Sl w2 aD mD cD ys) (nD:NewAt w1.heap.size aD) (bD:Below w1.heap.size w1 w2) (b3:Below w2.heap.size w2 w3) (c4:Chg (fun j => j = R) w3 wf) :
  Sl wf aN mN cN xs ∧ Sl wf aD mD cD ys ∧ NewAt w.heap.size aN ∧ NewAt w.heap.size aD ∧ Below w.heap.size w wf:=by
 have z1:=hb.size
 have z2:=bN.size
 have z3:=bD.size
 have z4:=b3.size
 refine ⟨((sN.below bD).below b3).chg c4 (fun x hx _ => by have:=nN x hx; omega),(sD.below b3).chg c4 (fun x hx _ => by have:=nD x hx; omega),fun x hx => by have:=nN x hx; omega,fun x hx => by have:=nD x hx; omega,?_⟩
 exact (((hb.trans (bN.mono (by omega))).trans (bD.mono (by omega))).trans (b3.mono (by omega))).trans (c4.below (by omega) (fun k hk => by omega))

set_option maxHeartbeats 8000000 in
theorem withSign_any (sg neg : Bool) (a1 a2 : Option Addr) (n1 c1 n2 c2 : Nat) (xs ys : List Nat) (w : World) (h1 : Sl w a1 n1 c1 xs) (h2 : Sl w a2 n2 c2 ys) (hn1 : n1 ≤ 1000000) (hn2 : n2 ≤ 1000000) :
    Calls Tryz.prog 108 #[.bool sg, ratV neg a1 n1 c1 a2 n2 c2] w fun e w' => ∃ v, e = .returned v ∧ NewR w w' (sg && decide (xs ≠ [])) xs ys v := by
  have bx := Box.made w neg a1 n1 c1 a2 n2 c2
  obtain ⟨wa, hwa⟩ : ∃ wa, ratBox w neg a1 n1 c1 a2 n2 c2 = wa := ⟨_, rfl⟩
  rw [hwa] at bx
  unfold ratBox at hwa
  have HBx := hide bx
  have d1 := bx.d1
  have d2 := bx.d2
  have H1 := hide h1
  have H2 := hide h2
  have HL := hide h1.len
  clear bx h1 h2
  unfold ratV
  go_enter Tryz.func108, Tryz.ntmps108
  go_wp2_with fail
  obtain ⟨wb, hwb⟩ : ∃ wb, wa.alloc (.cells #[.bool false, .slice none 0 0, .slice none 0 0] 25) = wb := ⟨_, rfl⟩
  rw [hwb]
  have hbb : Below wa.heap.size wa wb.drew := by rw [← hwb]; exact ((Below.refl _ _).alloc (Nat.le_refl _) _).drew
  have hO : Out wb.drew wa.heap.size := by rw [← hwb]; exact (Out.made wa).keep (Below.refl _ _).drew
  have hX := (unhide HBx).keep hbb
  have e1 := hX.d1
  have e2 := hX.d2
  have K1 := hide (sclone_any a1 n1 c1 xs wb.drew ((unhide H1).below hX.bel) hn1)
  have HX := hide hX
  have HO := hide hO
  clear hX hO hbb hwb d1 d2
  go_region_with (first
    | (go_at_call 79
       refine (unhide K1).mono ?_
       clear K1
       rintro _ w1 ⟨aN, mN, cN, rfl, sN, nN, bN⟩
       have hX1 := (unhide HX).keep bN
       have g1 := hX1.d1
       have g2 := hX1.d2
       have K2 := hide (sclone_any a2 n2 c2 ys w1 ((unhide H2).below hX1.bel) hn2)
       have HN := hide (And.intro sN (And.intro nN bN))
       clear hX1 sN nN bN)
    | (go_at_call 79
       refine (unhide K2).mono ?_
       clear K2
       rintro _ w2 ⟨aD, mD, cD, rfl, sD, nD, bD⟩
       have HD := hide (And.intro sD (And.intro nD bD))
       clear sD nD bD)
    | (go_at_call 78
       refine (signed_any sg aN aD mN cN mD cD w2).mono ?_
       rintro _ w3 ⟨rfl, b3⟩
       have hO3 := (((unhide HO).keep (unhide HN).2.2).keep (unhide HD).2.2).keep b3
       obtain ⟨x0, q0⟩ := hO3.cells 0 (by decide)
       obtain ⟨x1, q1⟩ := hO3.cells 1 (by decide)
       obtain ⟨x2, q2⟩ := hO3.cells 2 (by decide)
       have r0 := hO3.fz 0 (by decide)
       have r1 := hO3.fz 1 (by decide)
       have r2 := hO3.fz 2 (by decide)
       have H4 := hide (three_set w3 wa.heap.size (.bool (sg && decide (0 < mN))) (.slice aN mN cN) (.slice aD mD cD) hO3.cells)
       have HB3 := hide b3
       unfold ratV
       clear hO3 b3))
  all_goals
    go_wp2_with fail
    obtain ⟨p0, p1, p2, c4⟩ := unhide H4
    generalize ((w3.setCell ⟨wa.heap.size, 0, none⟩ (.bool (sg && decide (0 < mN)))).setCell ⟨wa.heap.size, 1, none⟩ (.slice aN mN cN)).setCell ⟨wa.heap.size, 2, none⟩ (.slice aD mD cD) = wf at *
    refine bodyPost_ret (by simp [results, Tryz.results108, go_sem, p0, p1, p2]; try rfl) rfl ?_
    obtain ⟨sN, nN, bN⟩ := unhide HN
    obtain ⟨sD, nD, bD⟩ := unhide HD
    have hlt := (unhide HBx).lt
    obtain ⟨q1, q2, q3, q4, q5⟩ := ratMade_new (unhide HX).bel (Nat.le_of_lt hlt) (unhide HO).lt sN nN bN sD nD bD (unhide HB3) c4
    refine ⟨_, rfl, aN, mN, cN, aD, mD, cD, ratV_congr ?_, q1, q2, q3, q4, q5⟩
    have hl := sN.len
    have : decide (0 < mN) = decide (xs ≠ []) := by
      by_cases e : xs = []
      · rw [e] at hl ⊢; simp at hl; subst hl; simp
      · have : 0 < mN := by rw [← hl]; exact List.length_pos_iff.2 e
        simp [e, this]
    rw [this]
def ResR (w w':World) (neg:Bool) (xs ys:List Nat) (er:Int) (e:Ending):Prop:=∃ v,e = .returned (.tuple #[v,.int .i64 er]) ∧ NewR w w' neg xs ys v

set_option maxHeartbeats 8000000 in
theorem ratAbs_any (neg:Bool) (a1 a2:Option Addr) (n1 c1 n2 c2:Nat) (xs ys:List Nat) (w:World) (h1:Sl w a1 n1 c1 xs) (h2:Sl w a2 n2 c2 ys) (ox:Ok xs) (oy:Ok ys) (hT:Tab64 w) :
  Calls Tryz.prog 54 #[ratV neg a1 n1 c1 a2 n2 c2] w fun e w' => ResR w w' false (if MayR neg xs ys = true then xs else []) (if MayR neg xs ys = true then ys else []) (if MayR neg xs ys = true then 0 else 40) e:=by
 have bx:=Box.made w neg a1 n1 c1 a2 n2 c2
 obtain ⟨wa,hwa⟩:∃ wa,ratBox w neg a1 n1 c1 a2 n2 c2 = wa:=⟨_,rfl⟩
 rw [hwa] at bx
 unfold ratBox at hwa
 obtain ⟨wb,hwb⟩:∃ wb,wa.alloc (.cells #[.bool false,.slice none 0 0,.slice none 0 0] 25) = wb:=⟨_,rfl⟩
 have hbb:Below wa.heap.size wa wb:=by rw [← hwb]; exact bAl
 have hO:Out wb wa.heap.size:=by rw [← hwb]; exact Out.made wa
 have hlt:=bx.lt
 have hX:=bx.keep hbb
 have d0:=hX.d0
 have d1:=hX.d1
 have d2:=hX.d2
 have KM:=ratMay_any neg a1 a2 n1 c1 n2 c2 xs ys wb (h1.below hX.bel) (h2.below hX.bel) ox oy (hT.below hX.bel)
 have HX:=Hj hX
 have HO:=Hj hO
 have H1:=Hj h1
 have H2:=Hj h2
 have HL:=Hj (And.intro h1.len h2.len)
 clear bx h1 h2 hT hbb hO hX
 cases hm:MayR neg xs ys
 ·rw [hm] at KM
  have KM':=Hj KM
  simp only [Bool.false_eq_true,if_false]
  clear KM hm
  unfold ratV at KM' ⊢
  go_enter Tryz.func54,Tryz.ntmps54
  go_wp2_with fail
  refine (Uh KM').mono ?_
  rintro _ w1 ⟨rfl,b1⟩
  have hO1:=(Uh HO).keep b1
  obtain ⟨x0,q0⟩:=hO1.cells 0 (by decide)
  obtain ⟨x1,q1⟩:=hO1.cells 1 (by decide)
  obtain ⟨x2,q2⟩:=hO1.cells 2 (by decide)
  have r0:=hO1.fz 0 (by decide)
  have r1:=hO1.fz 1 (by decide)
  have r2:=hO1.fz 2 (by decide)
  have H4:=Hj (three_set w1 wa.heap.size (.bool false) (.slice none 0 0) (.slice none 0 0) hO1.cells)
  have HB:=Hj ((Uh HX).bel.trans (b1.mono (Uh HX).bel.size))
  clear hO1 b1 KM'
  go_wp2_with fail
  obtain ⟨p0,p1,p2,c4⟩:=Uh H4
  generalize ((w1.setCell ⟨wa.heap.size,0,none⟩ (.bool false)).setCell ⟨wa.heap.size,1,none⟩ (.slice none 0 0)).setCell ⟨wa.heap.size,2,none⟩ (.slice none 0 0) = wf at *
  refine bodyPost_ret (by simp [results,Tryz.results54,go_sem,p0,p1,p2]; try rfl) rfl ?_
  exact ⟨_,rfl,none,0,0,none,0,0,rfl,sl_nil _,sl_nil _,newAt_nil _,newAt_nil _,(Uh HB).trans (c4.below (Uh HB).size (fun k hk => by omega))⟩
 ·rw [hm] at KM
  have KM':=Hj KM
  have hmm:MayL xs = true ∧ MayL ys = true:=by
   unfold MayR at hm
   simp only [Bool.and_eq_true] at hm
   exact ⟨hm.1.1.1.1,hm.1.1.1.2⟩
  have hn1:n1 ≤ 1000000:=by have:=MayL.len hmm.1; have:=(Uh HL).1; omega
  have hn2:n2 ≤ 1000000:=by have:=MayL.len hmm.2; have:=(Uh HL).2; omega
  simp only [if_true]
  clear KM hm hmm
  unfold ratV at KM' ⊢
  go_enter Tryz.func54,Tryz.ntmps54
  go_wp2_with fail
  refine (Uh KM').mono ?_
  rintro _ w1 ⟨rfl,b1⟩
  have b1d:Below wb.heap.size wb w1:=b1
  have hX1:=(Uh HX).keep b1d
  have g0:=hX1.d0
  have g1:=hX1.d1
  have g2:=hX1.d2
  have KW:=withSign_any false neg a1 a2 n1 c1 n2 c2 xs ys w1 ((Uh H1).below hX1.bel) ((Uh H2).below hX1.bel) hn1 hn2
  unfold ratV at KW
  simp only [Bool.false_and] at KW
  have KW':=Hj KW
  have HX1:=Hj hX1
  have HO1:=Hj ((Uh HO).keep b1d)
  clear hX1 b1 b1d KM' KW
  go_wp2_with fail
  refine (Uh KW').mono ?_
  clear KW'
  rintro _ w2 ⟨_,rfl,aN,mN,cN,aD,mD,cD,rfl,sN,sD,nN,nD,b2⟩
  have hO3:=(Uh HO1).keep b2
  obtain ⟨x0,q0⟩:=hO3.cells 0 (by decide)
  obtain ⟨x1,q1⟩:=hO3.cells 1 (by decide)
  obtain ⟨x2,q2⟩:=hO3.cells 2 (by decide)
  have r0:=hO3.fz 0 (by decide)
  have r1:=hO3.fz 1 (by decide)
  have r2:=hO3.fz 2 (by decide)
  have H4:=Hj (three_set w2 wa.heap.size (.bool false) (.slice aN mN cN) (.slice aD mD cD) hO3.cells)
  have HN:=Hj (And.intro sN (And.intro sD (And.intro nN (And.intro nD b2))))
  unfold ratV
  clear hO3 sN sD nN nD b2
  go_wp2_with fail
  obtain ⟨p0,p1,p2,c4⟩:=Uh H4
  generalize ((w2.setCell ⟨wa.heap.size,0,none⟩ (.bool false)).setCell ⟨wa.heap.size,1,none⟩ (.slice aN mN cN)).setCell ⟨wa.heap.size,2,none⟩ (.slice aD mD cD) = wf at *
  refine bodyPost_ret (by simp [results,Tryz.results54,go_sem,p0,p1,p2]; try rfl) rfl ?_
  obtain ⟨sN,sD,nN,nD,b2⟩:=Uh HN
  have hbz:=(Uh HX1).bel.size
  have hz:=(Uh HO1).lt
  refine ⟨_,rfl,aN,mN,cN,aD,mD,cD,rfl,sN.chg c4 (fun x hx _ => by have:=nN x hx; omega),sD.chg c4 (fun x hx _ => by have:=nD x hx; omega),fun x hx => by have:=nN x hx; omega,fun x hx => by have:=nD x hx; omega,?_⟩
  have hb2:=(Uh HX1).bel.trans (b2.mono hbz)
  exact hb2.trans (c4.below hb2.size (fun k hk => by omega))

def signR (neg:Bool) (xs:List Nat):Int:=if neg then -1 else if xs = [] then 0 else 1

set_option maxHeartbeats 4000000 in
theorem rsign_any (neg:Bool) (a1 a2:Option Addr) (n1 c1 n2 c2:Nat) (xs:List Nat) (w:World) (hl:xs.length = n1) :
  Calls Tryz.prog 84 #[ratV neg a1 n1 c1 a2 n2 c2] w fun e w' => e = .returned (.int .i64 (signR neg xs)) ∧ Below w.heap.size w w':=by
 have bx:=Box.made w neg a1 n1 c1 a2 n2 c2
 obtain ⟨wa,hwa⟩:∃ wa,ratBox w neg a1 n1 c1 a2 n2 c2 = wa:=⟨_,rfl⟩
 rw [hwa] at bx
 unfold ratBox at hwa
 have d0:=bx.d0
 have d1:=bx.d1
 have d2:=bx.d2
 have HX:=Hj bx
 clear bx
 cases neg
 ·have KZ:=isZero_any false a1 a2 n1 c1 n2 c2 wa
  unfold ratV at KZ ⊢
  by_cases h0:n1 = 0
  ·rw [decide_eq_true h0] at KZ
   subst h0
   have KZ':=Hj KZ
   have hx:xs = []:=List.eq_nil_of_length_eq_zero (by omega)
   have HS:=Hj (show signR false xs = 0 from by simp [signR,hx])
   clear KZ hx
   go_enter Tryz.func84,Tryz.ntmps84
   go_wp2_with fail
   refine (Uh KZ').mono ?_
   rintro _ w1 ⟨rfl,b1⟩
   have HB:=Hj ((Uh HX).bel.trans (b1.mono (Uh HX).bel.size))
   clear b1 KZ'
   go_wp2_with fail
   go_ret
   rw [Uh HS]
   exact ⟨rfl,Uh HB⟩
  ·rw [decide_eq_false h0] at KZ
   have KZ':=Hj KZ
   have hx:¬ xs = []:=by intro e; rw [e] at hl; simp at hl; omega
   have HS:=Hj (show signR false xs = 1 from by simp [signR,hx])
   clear KZ hx
   go_enter Tryz.func84,Tryz.ntmps84
   go_wp2_with fail
   refine (Uh KZ').mono ?_
   rintro _ w1 ⟨rfl,b1⟩
   have HB:=Hj ((Uh HX).bel.trans (b1.mono (Uh HX).bel.size))
   clear b1 KZ'
   go_wp2_with fail
   go_ret
   rw [Uh HS]
   exact ⟨rfl,Uh HB⟩
 ·have HS:=Hj (show signR true xs = -1 from by simp [signR])
  unfold ratV
  go_enter Tryz.func84,Tryz.ntmps84
  go_wp2_with fail
  go_ret
  rw [Uh HS]
  exact ⟨rfl,(Uh HX).bel⟩
set_option maxHeartbeats 8000000 in
theorem lowest_any (neg:Bool) (a1 a2:Option Addr) (n1 c1 n2 c2:Nat) (xs ys:List Nat) (w:World) (h1:Sl w a1 n1 c1 xs) (h2:Sl w a2 n2 c2 ys) (ox:Ok xs) (oy:Ok ys) (m1:MayL xs = true) (m2:MayL ys = true) (hy:ys ≠ []) (hT:Tab64 w) :
  Calls Tryz.prog 35 #[.bool neg,.slice a1 n1 c1,.slice a2 n2 c2] w fun e w' => ∃ v,e = .returned v ∧ NewR w w' (neg && decide (xs ≠ [])) (limbs (val xs / Nat.gcd (val xs) (val ys))) (limbs (val ys / Nat.gcd (val xs) (val ys))) v:=by
 obtain ⟨wb,hwb⟩:∃ wb,w.alloc (.cells #[.bool false,.slice none 0 0,.slice none 0 0] 25) = wb:=⟨_,rfl⟩
 have hbb:Below w.heap.size w wb:=by rw [← hwb]; exact bAl
 have hO:Out wb w.heap.size:=by rw [← hwb]; exact Out.made w
 have KD0:=ratDivisor_any a1 a2 n1 c1 n2 c2 xs ys wb (h1.below hbb) (h2.below hbb) ox oy m1 m2 (hT.below hbb)
 have hyp:=val_pos_of_may m2 hy
 have hGp:0 < Nat.gcd (val xs) (val ys):=Nat.gcd_pos_of_pos_right _ hyp
 have hGm:MayL (limbs (Nat.gcd (val xs) (val ys))) = true:=may_small m2 oy (Nat.gcd_le_right _ hyp)
 have hQ1:MayL (limbs (val xs / Nat.gcd (val xs) (val ys))) = true:=may_div m1 ox _
 have hQ2:MayL (limbs (val ys / Nat.gcd (val xs) (val ys))) = true:=may_div m2 oy _
 have hQ0:xs ≠ [] → val xs / Nat.gcd (val xs) (val ys) ≠ 0:=fun hx => by
  have hxp:=val_pos_of_may m1 hx
  have:=Nat.div_pos (Nat.gcd_le_left (val ys) hxp) hGp
  omega
 have hQz:xs = [] → val xs / Nat.gcd (val xs) (val ys) = 0:=fun hx => by rw [hx]; simp [val]
 obtain ⟨G,hG⟩:∃ G,Nat.gcd (val xs) (val ys) = G:=⟨_,rfl⟩
 rw [hG] at KD0 hGp hGm hQ1 hQ2 hQ0 hQz ⊢
 have KD:=Hj KD0
 have HQ:=Hj (And.intro hQ0 hQz)
 have H1:=Hj h1
 have H2:=Hj h2
 have HO:=Hj hO
 have HB:=Hj hbb
 have HM:=Hj (And.intro m1 (And.intro m2 (And.intro hGm (And.intro hQ1 hQ2))))
 clear KD0 h1 h2 hO hbb m1 m2 hT hG hQ0 hQz hyp hQ1 hQ2 hGm
 go_enter Tryz.func35,Tryz.ntmps35
 go_wp2_with fail
 refine (Uh KD).mono ?_
 rintro _ w1 ⟨aG,mG,cG,rfl,sG,nG,bG⟩
 have hb1:=(Uh HB).trans (bG.mono (Uh HB).size)
 have KQ:=ratQuotient_any a1 aG n1 c1 mG cG xs (limbs G) w1 ((Uh H1).below hb1) sG ox (limbs_rep G).ok (Uh HM).1 (Uh HM).2.2.1 (limbs_ne hGp)
 rw [(limbs_rep G).val] at KQ
 have KQ':=Hj KQ
 have SG:=Hj sG
 have HB1:=Hj hb1
 have HO1:=Hj ((Uh HO).keep bG)
 clear KQ sG nG bG hb1 KD HO HB
 go_wp2_with fail
 refine (Uh KQ').mono ?_
 rintro _ w2 ⟨aq,mq,cq,rfl,sq,_,bq⟩
 have hmq:mq ≤ 1000000:=by have:=sq.len; have:=MayL.len (Uh HM).2.2.2.1; omega
 have KC:=Hj (sclone_any aq mq cq _ w2 sq hmq)
 have HB2:=Hj ((Uh HB1).trans (bq.mono (Uh HB1).size))
 have HO2:=Hj ((Uh HO1).keep bq)
 have SG2:=Hj ((Uh SG).below bq)
 clear sq bq KQ' HB1 HO1 SG
 go_wp2_with fail
 refine (Uh KC).mono ?_
 rintro _ w3 ⟨aN,mN,cN,rfl,sN,nN,bN⟩
 have hb3:=(Uh HB2).trans (bN.mono (Uh HB2).size)
 have KQ:=ratQuotient_any a2 aG n2 c2 mG cG ys (limbs G) w3 ((Uh H2).below hb3) ((Uh SG2).below bN) oy (limbs_rep G).ok (Uh HM).2.1 (Uh HM).2.2.1 (limbs_ne hGp)
 rw [(limbs_rep G).val] at KQ
 have KQ':=Hj KQ
 have HB3:=Hj hb3
 have HO3:=Hj ((Uh HO2).keep bN)
 have hN2:NewAt w.heap.size aN:=fun x hx => Nat.le_trans (Uh HB2).size (nN x hx)
 have hNR:∀ x,aN = some x → x.block ≠ w.heap.size:=fun x hx => by have h1:=nN x hx; have h2:=(Uh HO2).lt; omega
 have SN:=Hj (And.intro sN (And.intro hN2 hNR))
 clear KQ sN nN bN hb3 KC HO2 HB2 SG2 hN2 hNR
 go_wp2_with fail
 refine (Uh KQ').mono ?_
 rintro _ w4 ⟨ar,mr,cr,rfl,sr,_,br⟩
 have hmr:mr ≤ 1000000:=by have:=sr.len; have:=MayL.len (Uh HM).2.2.2.2; omega
 have KC:=Hj (sclone_any ar mr cr _ w4 sr hmr)
 have HB4:=Hj ((Uh HB3).trans (br.mono (Uh HB3).size))
 have HO4:=Hj ((Uh HO3).keep br)
 have SN4:=Hj (And.intro ((Uh SN).1.below br) (Uh SN).2)
 clear sr br KQ' HB3 HO3 SN
 go_wp2_with fail
 refine (Uh KC).mono ?_
 rintro _ w5 ⟨aD,mD,cD,rfl,sD,nD,bD⟩
 have HB5:=Hj ((Uh HB4).trans (bD.mono (Uh HB4).size))
 have HO5:=Hj ((Uh HO4).keep bD)
 have SN5:=Hj (And.intro ((Uh SN4).1.below bD) (Uh SN4).2)
 have hD2:NewAt w.heap.size aD:=fun x hx => Nat.le_trans (Uh HB4).size (nD x hx)
 have hDR:∀ x,aD = some x → x.block ≠ w.heap.size:=fun x hx => by have h1:=nD x hx; have h2:=(Uh HO4).lt; omega
 have SD:=Hj (And.intro sD (And.intro hD2 hDR))
 clear sD nD bD KC HO4 HB4 SN4 hD2 hDR
 go_wp2_with fail
 refine (signed_any neg aN aD mN cN mD cD w5).mono ?_
 rintro _ w6 ⟨rfl,b6⟩
 have hO6:=(Uh HO5).keep b6
 obtain ⟨x0,q0⟩:=hO6.cells 0 (by decide)
 obtain ⟨x1,q1⟩:=hO6.cells 1 (by decide)
 obtain ⟨x2,q2⟩:=hO6.cells 2 (by decide)
 have r0:=hO6.fz 0 (by decide)
 have r1:=hO6.fz 1 (by decide)
 have r2:=hO6.fz 2 (by decide)
 obtain ⟨SGN,hSGN⟩:∃ SGN,(neg && decide (0 < mN)) = SGN:=⟨_,rfl⟩
 rw [hSGN]
 have HSG:=Hj hSGN
 have H4:=Hj (three_set w6 w.heap.size (.bool SGN) (.slice aN mN cN) (.slice aD mD cD) hO6.cells)
 have HB6:=Hj b6
 unfold ratV
 clear hO6 b6 hSGN
 go_wp2_with fail
 obtain ⟨p0,p1,p2,c4⟩:=Uh H4
 generalize ((w6.setCell ⟨w.heap.size,0,none⟩ (.bool SGN)).setCell ⟨w.heap.size,1,none⟩ (.slice aN mN cN)).setCell ⟨w.heap.size,2,none⟩ (.slice aD mD cD) = wf at *
 refine bodyPost_ret (by simp [results,Tryz.results35,go_sem,p0,p1,p2]; try rfl) rfl ?_
 have hbf:=(Uh HB5).trans ((Uh HB6).mono (Uh HB5).size)
 refine ⟨_,rfl,aN,mN,cN,aD,mD,cD,ratV_congr ?_,((Uh SN5).1.below (Uh HB6)).chg c4 (fun x hx _ => (Uh SN5).2.2 x hx),((Uh SD).1.below (Uh HB6)).chg c4 (fun x hx _ => (Uh SD).2.2 x hx),(Uh SN5).2.1,(Uh SD).2.1,hbf.trans (c4.below hbf.size (fun k hk => by omega))⟩
 rw [← Uh HSG]
 have hl:=(Uh SN5).1.len
 have:decide (0 < mN) = decide (xs ≠ []):=by
  by_cases e:xs = []
  ·have h0:=(Uh HQ).2 e
   rw [h0] at hl
   simp [limbs_zero] at hl
   subst hl
   simp [e]
  ·have h0:=(Uh HQ).1 e
   have:0 < mN:=by
    rw [← hl]
    exact List.length_pos_iff.2 (limbs_ne (Nat.pos_of_ne_zero h0))
   simp [e,this]
 rw [this]

structure MkL where
 neg:Bool
 num:List Nat
 den:List Nat
 er:Int
def makeL (neg:Bool) (xs ys:List Nat):MkL :=
 if (MayL xs && MayL ys) = true then (if ys = [] then ⟨false,[],[],3⟩ else ⟨neg && decide (xs ≠ []),limbs (val xs / Nat.gcd (val xs) (val ys)),limbs (val ys / Nat.gcd (val xs) (val ys)),0⟩) else ⟨false,[],[],20⟩

set_option maxHeartbeats 8000000 in
theorem ratMake_any (neg:Bool) (a1 a2:Option Addr) (n1 c1 n2 c2:Nat) (xs ys:List Nat) (w:World) (h1:Sl w a1 n1 c1 xs) (h2:Sl w a2 n2 c2 ys) (ox:Ok xs) (oy:Ok ys) (hT:Tab64 w) :
  Calls Tryz.prog 9 #[.bool neg,.slice a1 n1 c1,.slice a2 n2 c2] w fun e w' => ResR w w' (makeL neg xs ys).neg (makeL neg xs ys).num (makeL neg xs ys).den (makeL neg xs ys).er e:=by
 obtain ⟨wb,hwb⟩:∃ wb,w.alloc (.cells #[.bool false,.slice none 0 0,.slice none 0 0] 25) = wb:=⟨_,rfl⟩
 have hbb:Below w.heap.size w wb:=by rw [← hwb]; exact bAl
 have hO:Out wb w.heap.size:=by rw [← hwb]; exact Out.made w
 have K1:=may_any a1 n1 c1 xs wb (h1.below hbb)
 have K2:=may_any a2 n2 c2 ys wb (h2.below hbb)
 have hl2:=h2.len
 have KL:=fun m1 m2 hy => lowest_any neg a1 a2 n1 c1 n2 c2 xs ys wb (h1.below hbb) (h2.below hbb) ox oy m1 m2 hy (hT.below hbb)
 have HO:=Hj hO
 have HB:=Hj hbb
 have H3:=Hj (three_set wb w.heap.size (.bool false) (.slice none 0 0) (.slice none 0 0) hO.cells)
 obtain ⟨x0,q0⟩:=hO.cells 0 (by decide)
 obtain ⟨x1,q1⟩:=hO.cells 1 (by decide)
 obtain ⟨x2,q2⟩:=hO.cells 2 (by decide)
 have r0:=hO.fz 0 (by decide)
 have r1:=hO.fz 1 (by decide)
 have r2:=hO.fz 2 (by decide)
 clear h1 h2 hT hbb hO
 cases m1:MayL xs
 ·rw [m1] at K1
  have K1':=Hj K1
  have HR:=Hj (show makeL neg xs ys = ⟨false,[],[],20⟩ from by simp [makeL,m1])
  clear K1 K2 KL m1
  go_enter Tryz.func9,Tryz.ntmps9
  go_wp2_with fail
  refine (Uh K1').mono ?_
  rintro _ _ ⟨rfl,hw⟩
  obtain rfl:=hw.symm
  clear hw
  go_wp2_with fail
  obtain ⟨p0,p1,p2,c4⟩:=Uh H3
  generalize ((wb.setCell ⟨w.heap.size,0,none⟩ (.bool false)).setCell ⟨w.heap.size,1,none⟩ (.slice none 0 0)).setCell ⟨w.heap.size,2,none⟩ (.slice none 0 0) = wf at *
  refine bodyPost_ret (by simp [results,Tryz.results9,go_sem,p0,p1,p2]; try rfl) rfl ?_
  rw [Uh HR]
  exact ⟨_,rfl,none,0,0,none,0,0,rfl,sl_nil _,sl_nil _,newAt_nil _,newAt_nil _,(Uh HB).trans (c4.below (Uh HB).size (fun k hk => by omega))⟩
 ·rw [m1] at K1
  cases m2:MayL ys
  ·rw [m2] at K2
   have K1':=Hj K1
   have K2':=Hj K2
   have HR:=Hj (show makeL neg xs ys = ⟨false,[],[],20⟩ from by simp [makeL,m2])
   clear K1 K2 KL m1 m2
   go_enter Tryz.func9,Tryz.ntmps9
   go_wp2_with fail
   refine (Uh K1').mono ?_
   rintro _ _ ⟨rfl,hw⟩
   obtain rfl:=hw.symm
   clear hw
   go_wp2_with fail
   refine (Uh K2').mono ?_
   rintro _ _ ⟨rfl,hw⟩
   obtain rfl:=hw.symm
   clear hw
   go_wp2_with fail
   obtain ⟨p0,p1,p2,c4⟩:=Uh H3
   generalize ((wb.setCell ⟨w.heap.size,0,none⟩ (.bool false)).setCell ⟨w.heap.size,1,none⟩ (.slice none 0 0)).setCell ⟨w.heap.size,2,none⟩ (.slice none 0 0) = wf at *
   refine bodyPost_ret (by simp [results,Tryz.results9,go_sem,p0,p1,p2]; try rfl) rfl ?_
   rw [Uh HR]
   exact ⟨_,rfl,none,0,0,none,0,0,rfl,sl_nil _,sl_nil _,newAt_nil _,newAt_nil _,(Uh HB).trans (c4.below (Uh HB).size (fun k hk => by omega))⟩
  ·rw [m2] at K2
   have K1':=Hj K1
   have K2':=Hj K2
   by_cases hy:ys = []
   ·have HR:=Hj (show makeL neg xs ys = ⟨false,[],[],3⟩ from by unfold makeL; rw [m1,m2,if_pos (by decide:(true && true) = true),if_pos hy])
    have hn2:n2 = 0:=by rw [← hl2,hy]; rfl
    subst hn2
    clear K1 K2 KL m1 m2 hy hl2
    go_enter Tryz.func9,Tryz.ntmps9
    go_wp2_with fail
    refine (Uh K1').mono ?_
    rintro _ _ ⟨rfl,hw⟩
    obtain rfl:=hw.symm
    clear hw
    go_wp2_with fail
    refine (Uh K2').mono ?_
    rintro _ _ ⟨rfl,hw⟩
    obtain rfl:=hw.symm
    clear hw
    go_wp2_with fail
    obtain ⟨p0,p1,p2,c4⟩:=Uh H3
    generalize ((wb.setCell ⟨w.heap.size,0,none⟩ (.bool false)).setCell ⟨w.heap.size,1,none⟩ (.slice none 0 0)).setCell ⟨w.heap.size,2,none⟩ (.slice none 0 0) = wf at *
    refine bodyPost_ret (by simp [results,Tryz.results9,go_sem,p0,p1,p2]; try rfl) rfl ?_
    rw [Uh HR]
    exact ⟨_,rfl,none,0,0,none,0,0,rfl,sl_nil _,sl_nil _,newAt_nil _,newAt_nil _,(Uh HB).trans (c4.below (Uh HB).size (fun k hk => by omega))⟩
   ·have hn2:0 < n2:=by rw [← hl2]; exact List.length_pos_iff.2 hy
    have t1:((n2:Int) == 0) = false:=by simp; omega
    have t2:¬ (n2:Int) = 0:=by omega
    have KL1:=Hj (KL m1 m2 hy)
    have HR:=Hj (show makeL neg xs ys = ⟨neg && decide (xs ≠ []),limbs (val xs / Nat.gcd (val xs) (val ys)),limbs (val ys / Nat.gcd (val xs) (val ys)),0⟩ from by unfold makeL; rw [m1,m2,if_pos (by decide:(true && true) = true),if_neg hy])
    obtain ⟨SG,hSG⟩:∃ SG,(neg && decide (xs ≠ [])) = SG:=⟨_,rfl⟩
    obtain ⟨Q1,hQ1⟩:∃ Q1,limbs (val xs / Nat.gcd (val xs) (val ys)) = Q1:=⟨_,rfl⟩
    obtain ⟨Q2,hQ2⟩:∃ Q2,limbs (val ys / Nat.gcd (val xs) (val ys)) = Q2:=⟨_,rfl⟩
    rw [hSG,hQ1,hQ2] at KL1 HR
    clear K1 K2 KL m1 m2 hy hl2 hSG hQ1 hQ2
    go_enter Tryz.func9,Tryz.ntmps9
    go_wp2_with fail
    refine (Uh K1').mono ?_
    rintro _ _ ⟨rfl,hw⟩
    obtain rfl:=hw.symm
    clear hw
    go_wp2_with fail
    refine (Uh K2').mono ?_
    rintro _ _ ⟨rfl,hw⟩
    obtain rfl:=hw.symm
    clear hw
    clear q0 q1 q2 r0 r1 r2 H3
    go_wp2_with fail
    refine (Uh KL1).mono ?_
    rintro _ w2 ⟨_,rfl,aN,mN,cN,aD,mD,cD,rfl,sN,sD,nN,nD,b2⟩
    have hO3:=(Uh HO).keep b2
    obtain ⟨x0,q0⟩:=hO3.cells 0 (by decide)
    obtain ⟨x1,q1⟩:=hO3.cells 1 (by decide)
    obtain ⟨x2,q2⟩:=hO3.cells 2 (by decide)
    have r0:=hO3.fz 0 (by decide)
    have r1:=hO3.fz 1 (by decide)
    have r2:=hO3.fz 2 (by decide)
    have H4:=Hj (three_set w2 w.heap.size (.bool SG) (.slice aN mN cN) (.slice aD mD cD) hO3.cells)
    have HN:=Hj (And.intro sN (And.intro sD (And.intro nN (And.intro nD b2))))
    unfold ratV
    clear hO3 sN sD nN nD b2
    go_wp2_with fail
    obtain ⟨p0,p1,p2,c4⟩:=Uh H4
    generalize ((w2.setCell ⟨w.heap.size,0,none⟩ (.bool SG)).setCell ⟨w.heap.size,1,none⟩ (.slice aN mN cN)).setCell ⟨w.heap.size,2,none⟩ (.slice aD mD cD) = wf at *
    refine bodyPost_ret (by simp [results,Tryz.results9,go_sem,p0,p1,p2]; try rfl) rfl ?_
    rw [Uh HR]
    obtain ⟨sN,sD,nN,nD,b2⟩:=Uh HN
    have hbz:=(Uh HB).size
    have hz:=(Uh HO).lt
    refine ⟨_,rfl,aN,mN,cN,aD,mD,cD,rfl,sN.chg c4 (fun x hx _ => by have:=nN x hx; omega),sD.chg c4 (fun x hx _ => by have:=nD x hx; omega),fun x hx => by have:=nN x hx; omega,fun x hx => by have:=nD x hx; omega,?_⟩
    have hb2:=(Uh HB).trans (b2.mono hbz)
    exact hb2.trans (c4.below hb2.size (fun k hk => by omega))
end Go.Proofs.YtmnlhnmlgncedaaGreatDoor
