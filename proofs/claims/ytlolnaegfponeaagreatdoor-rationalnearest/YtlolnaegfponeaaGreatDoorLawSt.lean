/- Ra4 -/
import Derived.Test.YtlolnaegfponeaaGreatDoorRa3
import Derived.Test.YtlolnaegfponeaaGreatDoorGb
import Derived.Test.YtlolnaegfponeaaGreatDoorGiv2
import Derived.Test.YtlolnaegfponeaaGreatDoorMul
namespace Go.Proofs.YtlolnaegfponeaaGreatDoor
open Go.RowKit Go.Deep
set_option linter.unusedVariables false
def NewR (w w':World) (neg:Bool) (xs ys:List Nat) (v:Value):Prop :=
 ∃ a1 m1 c1 a2 m2 c2,v = ratV neg a1 m1 c1 a2 m2 c2 ∧ Sl w' a1 m1 c1 xs ∧ Sl w' a2 m2 c2 ys ∧ NewAt w.heap.size a1 ∧ NewAt w.heap.size a2 ∧ Below w.heap.size w w'

structure Box (w wa:World) (neg:Bool) (a1:Option Addr) (n1 c1:Nat) (a2:Option Addr) (n2 c2:Nat):Prop where
 bel:Below w.heap.size w wa
 lt:w.heap.size < wa.heap.size
 d0:wa.cell? ⟨w.heap.size,0,none⟩ = some (.bool neg)
 d1:wa.cell? ⟨w.heap.size,1,none⟩ = some (.slice a1 n1 c1)
 d2:wa.cell? ⟨w.heap.size,2,none⟩ = some (.slice a2 n2 c2)

theorem Box.made (w:World) (neg:Bool) (a1:Option Addr) (n1 c1:Nat) (a2:Option Addr) (n2 c2:Nat):Box w (ratBox w neg a1 n1 c1 a2 n2 c2) neg a1 n1 c1 a2 n2 c2 :=
 ⟨bAl,by simp [ratBox],by simp [ratBox],by simp [ratBox],by simp [ratBox]⟩
theorem Box.keep {w wa wb:World} {neg:Bool} {a1:Option Addr} {n1 c1:Nat} {a2:Option Addr} {n2 c2:Nat} (h:Box w wa neg a1 n1 c1 a2 n2 c2) (k:Below wa.heap.size wa wb):Box w wb neg a1 n1 c1 a2 n2 c2:=by
 have hc:∀ i,wb.cell? ⟨w.heap.size,i,none⟩ = wa.cell? ⟨w.heap.size,i,none⟩:=fun i => by unfold World.cell?; simp only; rw [k.block _ h.lt]
 exact ⟨h.bel.trans (k.mono h.bel.size),Nat.lt_of_lt_of_le h.lt k.size,(hc 0).trans h.d0,(hc 1).trans h.d1,(hc 2).trans h.d2⟩

theorem three_set (w1:World) (R:Nat) (v0 v1 v2:Value) (h:∀ i,i < 3 → ∃ v,w1.cell? ⟨R,i,none⟩ = some v) :
  (((w1.setCell ⟨R,0,none⟩ v0).setCell ⟨R,1,none⟩ v1).setCell ⟨R,2,none⟩ v2).cell? ⟨R,0,none⟩ = some v0 ∧
  (((w1.setCell ⟨R,0,none⟩ v0).setCell ⟨R,1,none⟩ v1).setCell ⟨R,2,none⟩ v2).cell? ⟨R,1,none⟩ = some v1 ∧
  (((w1.setCell ⟨R,0,none⟩ v0).setCell ⟨R,1,none⟩ v1).setCell ⟨R,2,none⟩ v2).cell? ⟨R,2,none⟩ = some v2 ∧
  Chg (fun j => j = R) w1 (((w1.setCell ⟨R,0,none⟩ v0).setCell ⟨R,1,none⟩ v1).setCell ⟨R,2,none⟩ v2):=by
 obtain ⟨x0,h0⟩:=h 0 (by decide)
 obtain ⟨x1,h1⟩:=h 1 (by decide)
 obtain ⟨x2,h2⟩:=h 2 (by decide)
 have s0:(w1.setCell ⟨R,0,none⟩ v0).cell? ⟨R,0,none⟩ = some v0:=World.cell?_setCell_same _ _ _ h0
 have s1:(w1.setCell ⟨R,0,none⟩ v0).cell? ⟨R,1,none⟩ = some x1:=by rw [World.cell?_setCell_other _ _ _ _ (by simp)]; exact h1
 have s2:(w1.setCell ⟨R,0,none⟩ v0).cell? ⟨R,2,none⟩ = some x2:=by rw [World.cell?_setCell_other _ _ _ _ (by simp)]; exact h2
 have t1:((w1.setCell ⟨R,0,none⟩ v0).setCell ⟨R,1,none⟩ v1).cell? ⟨R,1,none⟩ = some v1:=World.cell?_setCell_same _ _ _ s1
 have t2:((w1.setCell ⟨R,0,none⟩ v0).setCell ⟨R,1,none⟩ v1).cell? ⟨R,2,none⟩ = some x2:=by rw [World.cell?_setCell_other _ _ _ _ (by simp)]; exact s2
 refine ⟨?_,?_,World.cell?_setCell_same _ _ _ t2,((Chg.of_set (S:=fun j => j = R) _ _ _ _ rfl).trans (Chg.of_set (S:=fun j => j = R) _ _ _ _ rfl)).trans (Chg.of_set (S:=fun j => j = R) _ _ _ _ rfl)⟩
 ·rw [World.cell?_setCell_other _ _ _ _ (by simp),World.cell?_setCell_other _ _ _ _ (by simp)]; exact s0
 ·rw [World.cell?_setCell_other _ _ _ _ (by simp)]; exact t1

structure Out (w:World) (R:Nat):Prop where
 cells:∀ i,i < 3 → ∃ v,w.cell? ⟨R,i,none⟩ = some v
 fz:∀ i,i < 3 → w.frozen? ⟨R,i,none⟩ = false
 lt:R < w.heap.size
theorem Out.made (w:World):Out (w.alloc (.cells #[.bool false,.slice none 0 0,.slice none 0 0] 25)) w.heap.size:=by
 refine ⟨fun i hi => ?_,fun i hi => ?_,by simp⟩
 ·match i,hi with
  | 0,_ => exact ⟨.bool false,by simp⟩
  | 1,_ => exact ⟨.slice none 0 0,by simp⟩
  | 2,_ => exact ⟨.slice none 0 0,by simp⟩
 ·match i,hi with
  | 0,_ => simp
  | 1,_ => simp
  | 2,_ => simp
theorem Out.keep {w w':World} {R:Nat} (h:Out w R) (k:Below w.heap.size w w'):Out w' R:=by
 refine ⟨fun i hi => ?_,fun i hi => ?_,Nat.lt_of_lt_of_le h.lt k.size⟩
 ·obtain ⟨v,hv⟩:=h.cells i hi
  exact ⟨v,by rw [← hv]; unfold World.cell?; simp only; rw [k.block _ h.lt]⟩
 ·rw [← h.fz i hi]; unfold World.frozen?; simp only; rw [k.block _ h.lt]

theorem ratV_congr {g h:Bool} {a1:Option Addr} {n1 c1:Nat} {a2:Option Addr} {n2 c2:Nat} (e:g = h):ratV g a1 n1 c1 a2 n2 c2 = ratV h a1 n1 c1 a2 n2 c2:=by rw [e]

theorem ratMade_new {w wb w1 w2 w3 wf:World} {R:Nat} {aN aD:Option Addr} {mN cN mD cD:Nat} {xs ys:List Nat} (hb:Below w.heap.size w wb) (hR:w.heap.size ≤ R) (hRb:R < wb.heap.size)
  (sN:Sl w1 aN mN cN xs) (nN:NewAt wb.heap.size aN) (bN:Below wb.heap.size wb w1) (sD:Sl w2 aD mD cD ys) (nD:NewAt w1.heap.size aD) (bD:Below w1.heap.size w1 w2) (b3:Below w2.heap.size w2 w3) (c4:Chg (fun j => j = R) w3 wf) :
  Sl wf aN mN cN xs ∧ Sl wf aD mD cD ys ∧ NewAt w.heap.size aN ∧ NewAt w.heap.size aD ∧ Below w.heap.size w wf:=by
 have z1:=hb.size
 have z2:=bN.size
 have z3:=bD.size
 have z4:=b3.size
 refine ⟨((sN.below bD).below b3).chg c4 (fun x hx _ => by have:=nN x hx; omega),(sD.below b3).chg c4 (fun x hx _ => by have:=nD x hx; omega),fun x hx => by have:=nN x hx; omega,fun x hx => by have:=nD x hx; omega,?_⟩
 exact (((hb.trans (bN.mono (by omega))).trans (bD.mono (by omega))).trans (b3.mono (by omega))).trans (c4.below (by omega) (fun k hk => by omega))

set_option maxHeartbeats 8000000 in
theorem withSign_any (sg neg : Bool) (a1 a2 : Option Addr) (n1 c1 n2 c2 : Nat) (xs ys : List Nat) (w : World) (h1 : Sl w a1 n1 c1 xs) (h2 : Sl w a2 n2 c2 ys) (hn1 : n1 ≤ 1000000) (hn2 : n2 ≤ 1000000) :
    Calls Tryz.prog 79 #[.bool sg, ratV neg a1 n1 c1 a2 n2 c2] w fun e w' => ∃ v, e = .returned v ∧ NewR w w' (sg && decide (xs ≠ [])) xs ys v := by
  have bx := Box.made w neg a1 n1 c1 a2 n2 c2
  obtain ⟨wa, hwa⟩ : ∃ wa, ratBox w neg a1 n1 c1 a2 n2 c2 = wa := ⟨_, rfl⟩
  rw [hwa] at bx
  unfold ratBox at hwa
  have HBx := hide bx
  have d1 := bx.d1
  have d2 := bx.d2
  have H1 := hide h1
  have H2 := hide h2
  have HL := hide h1.len
  clear bx h1 h2
  unfold ratV
  go_enter Tryz.func79, Tryz.ntmps79
  go_wp2_with fail
  obtain ⟨wb, hwb⟩ : ∃ wb, wa.alloc (.cells #[.bool false, .slice none 0 0, .slice none 0 0] 25) = wb := ⟨_, rfl⟩
  rw [hwb]
  have hbb : Below wa.heap.size wa wb.drew := by rw [← hwb]; exact ((Below.refl _ _).alloc (Nat.le_refl _) _).drew
  have hO : Out wb.drew wa.heap.size := by rw [← hwb]; exact (Out.made wa).keep (Below.refl _ _).drew
  have hX := (unhide HBx).keep hbb
  have e1 := hX.d1
  have e2 := hX.d2
  have K1 := hide (sclone_any a1 n1 c1 xs wb.drew ((unhide H1).below hX.bel) hn1)
  have HX := hide hX
  have HO := hide hO
  clear hX hO hbb hwb d1 d2
  go_region_with (first
    | (go_at_call 85
       refine (unhide K1).mono ?_
       clear K1
       rintro _ w1 ⟨aN, mN, cN, rfl, sN, nN, bN⟩
       have hX1 := (unhide HX).keep bN
       have g1 := hX1.d1
       have g2 := hX1.d2
       have K2 := hide (sclone_any a2 n2 c2 ys w1 ((unhide H2).below hX1.bel) hn2)
       have HN := hide (And.intro sN (And.intro nN bN))
       clear hX1 sN nN bN)
    | (go_at_call 85
       refine (unhide K2).mono ?_
       clear K2
       rintro _ w2 ⟨aD, mD, cD, rfl, sD, nD, bD⟩
       have HD := hide (And.intro sD (And.intro nD bD))
       clear sD nD bD)
    | (go_at_call 84
       refine (signed_any sg aN aD mN cN mD cD w2).mono ?_
       rintro _ w3 ⟨rfl, b3⟩
       have hO3 := (((unhide HO).keep (unhide HN).2.2).keep (unhide HD).2.2).keep b3
       obtain ⟨x0, q0⟩ := hO3.cells 0 (by decide)
       obtain ⟨x1, q1⟩ := hO3.cells 1 (by decide)
       obtain ⟨x2, q2⟩ := hO3.cells 2 (by decide)
       have r0 := hO3.fz 0 (by decide)
       have r1 := hO3.fz 1 (by decide)
       have r2 := hO3.fz 2 (by decide)
       have H4 := hide (three_set w3 wa.heap.size (.bool (sg && decide (0 < mN))) (.slice aN mN cN) (.slice aD mD cD) hO3.cells)
       have HB3 := hide b3
       unfold ratV
       clear hO3 b3))
  all_goals
    go_wp2_with fail
    obtain ⟨p0, p1, p2, c4⟩ := unhide H4
    generalize ((w3.setCell ⟨wa.heap.size, 0, none⟩ (.bool (sg && decide (0 < mN)))).setCell ⟨wa.heap.size, 1, none⟩ (.slice aN mN cN)).setCell ⟨wa.heap.size, 2, none⟩ (.slice aD mD cD) = wf at *
    refine bodyPost_ret (by simp [results, Tryz.results79, go_sem, p0, p1, p2]; try rfl) rfl ?_
    obtain ⟨sN, nN, bN⟩ := unhide HN
    obtain ⟨sD, nD, bD⟩ := unhide HD
    have hlt := (unhide HBx).lt
    obtain ⟨q1, q2, q3, q4, q5⟩ := ratMade_new (unhide HX).bel (Nat.le_of_lt hlt) (unhide HO).lt sN nN bN sD nD bD (unhide HB3) c4
    refine ⟨_, rfl, aN, mN, cN, aD, mD, cD, ratV_congr ?_, q1, q2, q3, q4, q5⟩
    have hl := sN.len
    have : decide (0 < mN) = decide (xs ≠ []) := by
      by_cases e : xs = []
      · rw [e] at hl ⊢; simp at hl; subst hl; simp
      · have : 0 < mN := by rw [← hl]; exact List.length_pos_iff.2 e
        simp [e, this]
    rw [this]
def ResR (w w':World) (neg:Bool) (xs ys:List Nat) (er:Int) (e:Ending):Prop:=∃ v,e = .returned (.tuple #[v,.int .i64 er]) ∧ NewR w w' neg xs ys v

set_option maxHeartbeats 8000000 in
theorem ratAbs_any (neg:Bool) (a1 a2:Option Addr) (n1 c1 n2 c2:Nat) (xs ys:List Nat) (w:World) (h1:Sl w a1 n1 c1 xs) (h2:Sl w a2 n2 c2 ys) (ox:Ok xs) (oy:Ok ys) (hT:Tab64 w) :
  Calls Tryz.prog 36 #[ratV neg a1 n1 c1 a2 n2 c2] w fun e w' => ResR w w' false (if MayR neg xs ys = true then xs else []) (if MayR neg xs ys = true then ys else []) (if MayR neg xs ys = true then 0 else 40) e:=by
 have bx:=Box.made w neg a1 n1 c1 a2 n2 c2
 obtain ⟨wa,hwa⟩:∃ wa,ratBox w neg a1 n1 c1 a2 n2 c2 = wa:=⟨_,rfl⟩
 rw [hwa] at bx
 unfold ratBox at hwa
 obtain ⟨wb,hwb⟩:∃ wb,wa.alloc (.cells #[.bool false,.slice none 0 0,.slice none 0 0] 25) = wb:=⟨_,rfl⟩
 have hbb:Below wa.heap.size wa wb:=by rw [← hwb]; exact bAl
 have hO:Out wb wa.heap.size:=by rw [← hwb]; exact Out.made wa
 have hlt:=bx.lt
 have hX:=bx.keep hbb
 have d0:=hX.d0
 have d1:=hX.d1
 have d2:=hX.d2
 have KM:=ratMay_any neg a1 a2 n1 c1 n2 c2 xs ys wb (h1.below hX.bel) (h2.below hX.bel) ox oy (hT.below hX.bel)
 have HX:=Hd hX
 have HO:=Hd hO
 have H1:=Hd h1
 have H2:=Hd h2
 have HL:=Hd (And.intro h1.len h2.len)
 clear bx h1 h2 hT hbb hO hX
 cases hm:MayR neg xs ys
 ·rw [hm] at KM
  have KM':=Hd KM
  simp only [Bool.false_eq_true,if_false]
  clear KM hm
  unfold ratV at KM' ⊢
  go_enter Tryz.func36,Tryz.ntmps36
  go_wp2_with fail
  refine (Uh KM').mono ?_
  rintro _ w1 ⟨rfl,b1⟩
  have hO1:=(Uh HO).keep b1
  obtain ⟨x0,q0⟩:=hO1.cells 0 (by decide)
  obtain ⟨x1,q1⟩:=hO1.cells 1 (by decide)
  obtain ⟨x2,q2⟩:=hO1.cells 2 (by decide)
  have r0:=hO1.fz 0 (by decide)
  have r1:=hO1.fz 1 (by decide)
  have r2:=hO1.fz 2 (by decide)
  have H4:=Hd (three_set w1 wa.heap.size (.bool false) (.slice none 0 0) (.slice none 0 0) hO1.cells)
  have HB:=Hd ((Uh HX).bel.trans (b1.mono (Uh HX).bel.size))
  clear hO1 b1 KM'
  go_wp2_with fail
  obtain ⟨p0,p1,p2,c4⟩:=Uh H4
  generalize ((w1.setCell ⟨wa.heap.size,0,none⟩ (.bool false)).setCell ⟨wa.heap.size,1,none⟩ (.slice none 0 0)).setCell ⟨wa.heap.size,2,none⟩ (.slice none 0 0) = wf at *
  refine bodyPost_ret (by simp [results,Tryz.results36,go_sem,p0,p1,p2]; try rfl) rfl ?_
  exact ⟨_,rfl,none,0,0,none,0,0,rfl,sl_nil _,sl_nil _,newAt_nil _,newAt_nil _,(Uh HB).trans (c4.below (Uh HB).size (fun k hk => by omega))⟩
 ·rw [hm] at KM
  have KM':=Hd KM
  have hmm:MayL xs = true ∧ MayL ys = true:=by
   unfold MayR at hm
   simp only [Bool.and_eq_true] at hm
   exact ⟨hm.1.1.1.1,hm.1.1.1.2⟩
  have hn1:n1 ≤ 1000000:=by have:=MayL.len hmm.1; have:=(Uh HL).1; omega
  have hn2:n2 ≤ 1000000:=by have:=MayL.len hmm.2; have:=(Uh HL).2; omega
  simp only [if_true]
  clear KM hm hmm
  unfold ratV at KM' ⊢
  go_enter Tryz.func36,Tryz.ntmps36
  go_wp2_with fail
  refine (Uh KM').mono ?_
  rintro _ w1 ⟨rfl,b1⟩
  have b1d:Below wb.heap.size wb w1:=b1
  have hX1:=(Uh HX).keep b1d
  have g0:=hX1.d0
  have g1:=hX1.d1
  have g2:=hX1.d2
  have KW:=withSign_any false neg a1 a2 n1 c1 n2 c2 xs ys w1 ((Uh H1).below hX1.bel) ((Uh H2).below hX1.bel) hn1 hn2
  unfold ratV at KW
  simp only [Bool.false_and] at KW
  have KW':=Hd KW
  have HX1:=Hd hX1
  have HO1:=Hd ((Uh HO).keep b1d)
  clear hX1 b1 b1d KM' KW
  go_wp2_with fail
  refine (Uh KW').mono ?_
  clear KW'
  rintro _ w2 ⟨_,rfl,aN,mN,cN,aD,mD,cD,rfl,sN,sD,nN,nD,b2⟩
  have hO3:=(Uh HO1).keep b2
  obtain ⟨x0,q0⟩:=hO3.cells 0 (by decide)
  obtain ⟨x1,q1⟩:=hO3.cells 1 (by decide)
  obtain ⟨x2,q2⟩:=hO3.cells 2 (by decide)
  have r0:=hO3.fz 0 (by decide)
  have r1:=hO3.fz 1 (by decide)
  have r2:=hO3.fz 2 (by decide)
  have H4:=Hd (three_set w2 wa.heap.size (.bool false) (.slice aN mN cN) (.slice aD mD cD) hO3.cells)
  have HN:=Hd (And.intro sN (And.intro sD (And.intro nN (And.intro nD b2))))
  unfold ratV
  clear hO3 sN sD nN nD b2
  go_wp2_with fail
  obtain ⟨p0,p1,p2,c4⟩:=Uh H4
  generalize ((w2.setCell ⟨wa.heap.size,0,none⟩ (.bool false)).setCell ⟨wa.heap.size,1,none⟩ (.slice aN mN cN)).setCell ⟨wa.heap.size,2,none⟩ (.slice aD mD cD) = wf at *
  refine bodyPost_ret (by simp [results,Tryz.results36,go_sem,p0,p1,p2]; try rfl) rfl ?_
  obtain ⟨sN,sD,nN,nD,b2⟩:=Uh HN
  have hbz:=(Uh HX1).bel.size
  have hz:=(Uh HO1).lt
  refine ⟨_,rfl,aN,mN,cN,aD,mD,cD,rfl,sN.chg c4 (fun x hx _ => by have:=nN x hx; omega),sD.chg c4 (fun x hx _ => by have:=nD x hx; omega),fun x hx => by have:=nN x hx; omega,fun x hx => by have:=nD x hx; omega,?_⟩
  have hb2:=(Uh HX1).bel.trans (b2.mono hbz)
  exact hb2.trans (c4.below hb2.size (fun k hk => by omega))

def signR (neg:Bool) (xs:List Nat):Int:=if neg then -1 else if xs = [] then 0 else 1

set_option maxHeartbeats 4000000 in
theorem rsign_any (neg:Bool) (a1 a2:Option Addr) (n1 c1 n2 c2:Nat) (xs:List Nat) (w:World) (hl:xs.length = n1) :
  Calls Tryz.prog 35 #[ratV neg a1 n1 c1 a2 n2 c2] w fun e w' => e = .returned (.int .i64 (signR neg xs)) ∧ Below w.heap.size w w':=by
 have bx:=Box.made w neg a1 n1 c1 a2 n2 c2
 obtain ⟨wa,hwa⟩:∃ wa,ratBox w neg a1 n1 c1 a2 n2 c2 = wa:=⟨_,rfl⟩
 rw [hwa] at bx
 unfold ratBox at hwa
 have d0:=bx.d0
 have d1:=bx.d1
 have d2:=bx.d2
 have HX:=Hd bx
 clear bx
 cases neg
 ·have KZ:=isZero_any false a1 a2 n1 c1 n2 c2 wa
  unfold ratV at KZ ⊢
  by_cases h0:n1 = 0
  ·rw [decide_eq_true h0] at KZ
   subst h0
   have KZ':=Hd KZ
   have hx:xs = []:=List.eq_nil_of_length_eq_zero (by omega)
   have HS:=Hd (show signR false xs = 0 from by simp [signR,hx])
   clear KZ hx
   go_enter Tryz.func35,Tryz.ntmps35
   go_wp2_with fail
   refine (Uh KZ').mono ?_
   rintro _ w1 ⟨rfl,b1⟩
   have HB:=Hd ((Uh HX).bel.trans (b1.mono (Uh HX).bel.size))
   clear b1 KZ'
   go_wp2_with fail
   go_ret
   rw [Uh HS]
   exact ⟨rfl,Uh HB⟩
  ·rw [decide_eq_false h0] at KZ
   have KZ':=Hd KZ
   have hx:¬ xs = []:=by intro e; rw [e] at hl; simp at hl; omega
   have HS:=Hd (show signR false xs = 1 from by simp [signR,hx])
   clear KZ hx
   go_enter Tryz.func35,Tryz.ntmps35
   go_wp2_with fail
   refine (Uh KZ').mono ?_
   rintro _ w1 ⟨rfl,b1⟩
   have HB:=Hd ((Uh HX).bel.trans (b1.mono (Uh HX).bel.size))
   clear b1 KZ'
   go_wp2_with fail
   go_ret
   rw [Uh HS]
   exact ⟨rfl,Uh HB⟩
 ·have HS:=Hd (show signR true xs = -1 from by simp [signR])
  unfold ratV
  go_enter Tryz.func35,Tryz.ntmps35
  go_wp2_with fail
  go_ret
  rw [Uh HS]
  exact ⟨rfl,(Uh HX).bel⟩



structure Pc where
 a:Option Addr
 n:Nat
 c:Nat
 xs:List Nat

def Pc.v (p:Pc):Value:=.slice p.a p.n p.c

structure Kp (w:World) (B:Nat) (v0 v1:Value) (p:Pc):Prop where
 sl:Sl w p.a p.n p.c p.xs
 safe:∀ x,p.a = some x → p.xs ≠ [] → ¬ Own B v0 v1 x.block

structure LawSt (w:World) (B:Nat) (v0 v1:Value) (es:List Ent) (w0:World) (L:List Pc):Prop where
 giv:Giv w B v0 v1 es
 bel:Below w0.heap.size w0 w
 base:w0.heap.size ≤ B
 all:∀ p ∈ L,Kp w B v0 v1 p

theorem Giv.own_ge {w:World} {B:Nat} {v0 v1:Value} {es:List Ent} (h:Giv w B v0 v1 es) {k:Nat} (hk:Own B v0 v1 k):B ≤ k:=by
 rcases hk with rfl | hk | hk
 ·exact Nat.le_refl _
 ·have:=(Go.Proofs.YtlolnaegfponeaaGreatDoor.own_ge h.own0 k hk).1; omega
 ·have:=(Go.Proofs.YtlolnaegfponeaaGreatDoor.own_ge h.own1 k hk).1; omega

theorem Kp.below {w w':World} {B:Nat} {v0 v1:Value} {p:Pc} (h:Kp w B v0 v1 p) (k:Below w.heap.size w w'):Kp w' B v0 v1 p:=⟨h.sl.below k,h.safe⟩

theorem LawSt.keep {w w':World} {B:Nat} {v0 v1:Value} {es:List Ent} {w0:World} {L:List Pc} (h:LawSt w B v0 v1 es w0 L) (k:Below w.heap.size w w'):LawSt w' B v0 v1 es w0 L :=
 ⟨h.giv.below k,h.bel.trans (k.mono h.bel.size),h.base,fun p hp => (h.all p hp).below k⟩

theorem LawSt.drewN {w:World} {B:Nat} {v0 v1:Value} {es:List Ent} {w0:World} {L:List Pc} (h:LawSt w B v0 v1 es w0 L) (k:Nat):LawSt (w.drewN k) B v0 v1 es w0 L :=
 h.keep (bel_drewN (Below.refl _ _) k)

theorem Sl.pre {w:World} {b c n:Nat} {xs ys:List Nat} (h:Sl w (some ⟨b,0,none⟩) (xs.length + 3) c (xs ++ ys)) (hn:xs.length = n) (hl:ys.length = 3):Sl w (some ⟨b,0,none⟩) n c xs:=by
 have h1:=h.le
 refine ⟨hn,by omega,h.cap,?_⟩
 rcases h.cells with e | ⟨b',off',e,k⟩
 ·left
  cases xs with
  | nil => rfl
  | cons => simp at e
 ·right
  refine ⟨b',off',e,?_⟩
  intro i hi
  have:=k i (by simp; omega)
  rw [this]
  simp [List.getD,List.getElem?_append_left hi]

theorem LawSt.nat {w:World} {B:Nat} {v0 v1:Value} {es:List Ent} {w0:World} {L:List Pc} (h:LawSt w B v0 v1 es w0 L) (p:Pc) (hp:p ∈ L) (hn:p.n ≤ 35184372088000) (he:es.length ≤ 1000000000000) :
  Calls Tryz.prog 58 #[.pointer (some ⟨B,0,none⟩),.slice p.a p.n p.c] w fun e w' => ∃ v0' v1' E,e = .returned (.slice (some ⟨Ent.b E,0,none⟩) p.n E.c) ∧ LawSt w' B v0' v1' (es ++ [E]) w0 (⟨some ⟨E.b,0,none⟩,p.n,E.c,p.xs⟩ :: L):=by
 refine (gnat_any B v0 v1 es p.a p.n p.c p.xs w h.giv (h.all p hp).sl hn he).mono ?_
 rintro e w' ⟨v0',v1',E,rfl,hxs,hge,hg,hc,hsafe⟩
 refine ⟨v0',v1',E,rfl,hg,?_,h.base,?_⟩
 ·refine h.bel.trans (hc.below h.bel.size ?_)
  intro k hk ho
  have:=h.giv.own_ge ho
  have:=h.base
  omega
 ·intro q hq
  rcases List.mem_cons.1 hq with rfl | hq
  ·have E1:=hg.ents E (by simp)
   have:=E1.sl.pre (n:=p.n) (by rw [hxs]; exact (h.all p hp).sl.len) (by rfl)
   rw [hxs] at this
   exact ⟨this,fun x hx _ => by cases hx; exact E1.s⟩
  ·have K:=h.all q hq
   refine ⟨K.sl.chg hc K.safe,?_⟩
   intro x hx hne
   exact hsafe _ (K.sl.block_lt hne x hx) (K.safe x hx hne)

theorem LawSt.sl {w:World} {B:Nat} {v0 v1:Value} {es:List Ent} {w0:World} {L:List Pc} (h:LawSt w B v0 v1 es w0 L) (p:Pc) (hp:p ∈ L):Sl w p.a p.n p.c p.xs:=(h.all p hp).sl

theorem LawSt.begin {w:World} {L:List Pc} (o:Obj) (ho:o = .cells #[.slice none 0 0,.slice none 0 0,.slice none 0 0,.slice none 0 0,.slice none 0 0,.slice none 0 0,.slice none 0 0,.slice none 0 0,.slice none 0 0,.slice none 0 0,.slice none 0 0,.slice none 0 0,.slice none 0 0,.slice none 0 0,.slice none 0 0,.slice none 0 0,.slice none 0 0,.slice none 0 0,.slice none 0 0,.slice none 0 0] 59)
  (h:∀ p ∈ L,Sl w p.a p.n p.c p.xs):LawSt (w.alloc o) w.heap.size (.slice none 0 0) (.slice none 0 0) [] w L:=by
 have bel:Below w.heap.size w (w.alloc o):=(Below.refl _ _).alloc (Nat.le_refl _) o
 subst ho
 refine ⟨⟨⟨_,alloc_block _ _,rfl,rfl,rfl,?_⟩,World.ownsRow_nil _ _ _ _,World.ownsRow_nil _ _ _ _,(fun k hk => by cases hk),(fun e he => by cases he)⟩,bel,Nat.le_refl _,?_⟩
 ·intro i h2 h20
  match i,h20 with
  | 0,_ | 1,_ | 2,_ | 3,_ | 4,_ | 5,_ | 6,_ | 7,_ | 8,_ | 9,_ | 10,_ | 11,_ | 12,_ | 13,_ | 14,_ | 15,_ | 16,_ | 17,_ | 18,_ | 19,_ => rfl
  | n + 20,h => exact absurd h (by omega)
 ·intro p hp
  have:=h p hp
  refine ⟨this.below bel,?_⟩
  rintro x hx hne (h | h | h)
  ·have:=this.block_lt hne x hx; omega
  ·cases h
  ·cases h
end Go.Proofs.YtlolnaegfponeaaGreatDoor
