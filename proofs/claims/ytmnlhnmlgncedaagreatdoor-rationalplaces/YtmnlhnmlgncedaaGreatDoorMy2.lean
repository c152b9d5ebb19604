/- Wjc -/
import Derived.Test.YtmnlhnmlgncedaaGreatDoorWij
import Derived.Test.YtmnlhnmlgncedaaGreatDoorRp5
import Derived.Test.YtmnlhnmlgncedaaGreatDoorRc1
import Derived.Test.YtmnlhnmlgncedaaGreatDoorRn3
import Derived.Test.YtmnlhnmlgncedaaGreatDoorGc
import Derived.Test.YtmnlhnmlgncedaaGreatDoorPa2
import Derived.Test.YtmnlhnmlgncedaaGreatDoorCmp
namespace Go.Proofs.YtmnlhnmlgncedaaGreatDoor
open Go.RowKit Go.Deep
set_option linter.unusedVariables false
def pwF (g:Bool) (X Y:List Nat) (k:Nat):(Bool × List Nat × List Nat) × Int:=if bigN (val X ^ k) || bigN (val Y ^ k) then ((false,[],[]),2) else ((((g && decide (k % 2 = 1)) && decide (val X ^ k ≠ 0)),limbs (val X ^ k),limbs (val Y ^ k)),0)
def PowF (g:Bool) (x y:List Nat) (k:Int):(Bool × List Nat × List Nat) × Int:=if MayR g x y then (if k < -1024 ∨ 1024 < k then ((false,[],[]),1) else if k < 0 then (if x = [] then ((false,[],[]),3) else pwF g y x (-k).toNat) else pwF g x y k.toNat) else ((false,[],[]),40)
theorem powL_fit {X:List Nat} {k:Nat} (m:MayL X = true) (hk:k ≤ 1024):powL X (k:Int) = fitL (val X ^ k):=by
 unfold powL
 rw [if_pos m,if_neg (by omega),Int.toNat_natCast]
theorem Tok.len_pos {v:Nat} {m:Nat} (h:(limbs v).length = m):decide (0 < m) = decide (v ≠ 0):=by
 by_cases e:v = 0
 ·have hl:limbs v = []:=by
   have:=limbs_val (xs:=[]) (by intro x hx; cases hx) (by simp [Norm])
   rw [e]; simpa [val] using this
  rw [hl] at h
  simp at h
  simp [e,← h]
 ·have:limbs v ≠ []:=limbs_ne (by omega)
  have h2:=List.length_pos_iff.2 this
  rw [decide_eq_true (by omega),decide_eq_true e]

set_option maxHeartbeats 8000000 in
set_option maxRecDepth 100000 in
theorem ratpow_bad (g:Bool) (a b:Option Addr) (n c m d:Nat) (x y:List Nat) (k:Int) (w:World) (hx:Sl w a n c x) (hy:Sl w b m d y) (ox:Ok x) (oy:Ok y) (hT:Tab64 w) (hm:MayR g x y = false) :
  Calls Tryz.prog 18 #[ratV g a n c b m d,.int .i64 k] w fun e w' => ResR w w' false [] [] 40 e:=by
 have bx:=Box.made w g a n c b m d
 obtain ⟨wa,hwa⟩:∃ wa,ratBox w g a n c b m d = wa:=⟨_,rfl⟩
 rw [hwa] at bx
 obtain ⟨wb,hwb⟩:∃ wb,wa.alloc (.cells #[.bool false,.slice none 0 0,.slice none 0 0] 25) = wb:=⟨_,rfl⟩
 have hba:Below w.heap.size w wa:=by rw [← hwa]; exact bAl
 have hbb:Below wa.heap.size wa wb:=by rw [← hwb]; exact bAl
 have hO:Out wb wa.heap.size:=by rw [← hwb]; exact Out.made wa
 have hoR:Out wb w.heap.size:=by
  have h0:=bx.keep hbb
  unfold ratBox at hwa
  refine ⟨fun i hi => ?_,fun i hi => ?_,h0.lt⟩
  ·match i,hi with
   | 0,_ => exact ⟨_,h0.d0⟩
   | 1,_ => exact ⟨_,h0.d1⟩
   | 2,_ => exact ⟨_,h0.d2⟩
  ·match i,hi with
   | 0,_ => rw [← hwb,← hwa]; simp
   | 1,_ => rw [← hwb,← hwa]; simp
   | 2,_ => rw [← hwb,← hwa]; simp
 have hX:=bx.keep hbb
 have hB:=hba.trans (hbb.mono hba.size)
 have hlt:=bx.lt
 have d0:=hX.d0
 have d1:=hX.d1
 have d2:=hX.d2
 unfold ratBox at hwa
 have KM:=ratMay_any g a b n c m d x y wb (hx.below hB) (hy.below hB) ox oy (hT.below hB)
 rw [hm] at KM
 have HKM:=Hj KM
 have HX:=Hj (And.intro hX (And.intro hO (And.intro hoR hB)))
 have HS:=Hj (And.intro hx hy)
 have HLn:=Hj hx.len
 unfold ratV at HKM ⊢
 clear bx hX hO hoR hB hba hbb KM hx hy hT
 go_enter Tryz.func18,Tryz.ntmps18
 go_wp2_with fail
 refine (Uh HKM).mono ?_
 rintro _ wl ⟨rfl,b1⟩
 have HY:=Hj (And.intro ((Uh HX).1.keep b1) (And.intro ((Uh HX).2.1.keep b1) (And.intro ((Uh HX).2.2.1.keep b1) ((Uh HX).2.2.2.trans (b1.mono (Uh HX).2.2.2.size)))))
 clear b1 HKM HX d0 d1 d2
 have hO1:=(Uh HY).2.1
 obtain ⟨x0,q0⟩:=hO1.cells 0 (by decide)
 obtain ⟨x1,q1⟩:=hO1.cells 1 (by decide)
 obtain ⟨x2,q2⟩:=hO1.cells 2 (by decide)
 have r0:=hO1.fz 0 (by decide)
 have r1:=hO1.fz 1 (by decide)
 have r2:=hO1.fz 2 (by decide)
 have H4:=Hj (three_set wl wa.heap.size (.bool false) (.slice none 0 0) (.slice none 0 0) hO1.cells)
 have HB:=Hj (Uh HY).2.2.2
 clear hO1
 go_wp2_with fail
 obtain ⟨p0,p1,p2,c4⟩:=Uh H4
 generalize ((wl.setCell ⟨wa.heap.size,0,none⟩ (.bool false)).setCell ⟨wa.heap.size,1,none⟩ (.slice none 0 0)).setCell ⟨wa.heap.size,2,none⟩ (.slice none 0 0) = wf at *
 refine bodyPost_ret (by simp [results,Tryz.results18,go_sem,p0,p1,p2]; try rfl) rfl ?_
 exact ⟨_,rfl,none,0,0,none,0,0,rfl,sl_nil _,sl_nil _,newAt_nil _,newAt_nil _,(Uh HB).trans (c4.below (Uh HB).size (fun k hk => by omega))⟩

set_option maxHeartbeats 8000000 in
set_option maxRecDepth 100000 in
theorem ratpow_arg (g:Bool) (a b:Option Addr) (n c m d:Nat) (x y:List Nat) (k:Int) (w:World) (hx:Sl w a n c x) (hy:Sl w b m d y) (ox:Ok x) (oy:Ok y) (hT:Tab64 w) (hm:MayR g x y = true) (hk:k < -1024 ∨ 1024 < k) :
  Calls Tryz.prog 18 #[ratV g a n c b m d,.int .i64 k] w fun e w' => ResR w w' false [] [] 1 e:=by
 have bx:=Box.made w g a n c b m d
 obtain ⟨wa,hwa⟩:∃ wa,ratBox w g a n c b m d = wa:=⟨_,rfl⟩
 rw [hwa] at bx
 obtain ⟨wb,hwb⟩:∃ wb,wa.alloc (.cells #[.bool false,.slice none 0 0,.slice none 0 0] 25) = wb:=⟨_,rfl⟩
 have hba:Below w.heap.size w wa:=by rw [← hwa]; exact bAl
 have hbb:Below wa.heap.size wa wb:=by rw [← hwb]; exact bAl
 have hO:Out wb wa.heap.size:=by rw [← hwb]; exact Out.made wa
 have hoR:Out wb w.heap.size:=by
  have h0:=bx.keep hbb
  unfold ratBox at hwa
  refine ⟨fun i hi => ?_,fun i hi => ?_,h0.lt⟩
  ·match i,hi with
   | 0,_ => exact ⟨_,h0.d0⟩
   | 1,_ => exact ⟨_,h0.d1⟩
   | 2,_ => exact ⟨_,h0.d2⟩
  ·match i,hi with
   | 0,_ => rw [← hwb,← hwa]; simp
   | 1,_ => rw [← hwb,← hwa]; simp
   | 2,_ => rw [← hwb,← hwa]; simp
 have hX:=bx.keep hbb
 have hB:=hba.trans (hbb.mono hba.size)
 have hlt:=bx.lt
 have d0:=hX.d0
 have d1:=hX.d1
 have d2:=hX.d2
 unfold ratBox at hwa
 have KM:=ratMay_any g a b n c m d x y wb (hx.below hB) (hy.below hB) ox oy (hT.below hB)
 rw [hm] at KM
 have HKM:=Hj KM
 have HX:=Hj (And.intro hX (And.intro hO (And.intro hoR hB)))
 have HS:=Hj (And.intro hx hy)
 have HLn:=Hj hx.len
 unfold ratV at HKM ⊢
 clear bx hX hO hoR hB hba hbb KM hx hy hT
 rcases hk with hk | hk
 focus
  have hk2:k < -1024:=hk
 rotate_left
 focus
  have hk2:¬ k < -1024:=by omega
 all_goals
  go_enter Tryz.func18,Tryz.ntmps18
  go_wp2_with fail
  refine (Uh HKM).mono ?_
  rintro _ wl ⟨rfl,b1⟩
  have HY:=Hj (And.intro ((Uh HX).1.keep b1) (And.intro ((Uh HX).2.1.keep b1) (And.intro ((Uh HX).2.2.1.keep b1) ((Uh HX).2.2.2.trans (b1.mono (Uh HX).2.2.2.size)))))
  clear b1 HKM HX d0 d1 d2
  have hO1:=(Uh HY).2.1
  obtain ⟨x0,q0⟩:=hO1.cells 0 (by decide)
  obtain ⟨x1,q1⟩:=hO1.cells 1 (by decide)
  obtain ⟨x2,q2⟩:=hO1.cells 2 (by decide)
  have r0:=hO1.fz 0 (by decide)
  have r1:=hO1.fz 1 (by decide)
  have r2:=hO1.fz 2 (by decide)
  have H4:=Hj (three_set wl wa.heap.size (.bool false) (.slice none 0 0) (.slice none 0 0) hO1.cells)
  have HB:=Hj (Uh HY).2.2.2
  clear hO1
  go_wp2_with fail
  obtain ⟨p0,p1,p2,c4⟩:=Uh H4
  generalize ((wl.setCell ⟨wa.heap.size,0,none⟩ (.bool false)).setCell ⟨wa.heap.size,1,none⟩ (.slice none 0 0)).setCell ⟨wa.heap.size,2,none⟩ (.slice none 0 0) = wf at *
  refine bodyPost_ret (by simp [results,Tryz.results18,go_sem,p0,p1,p2]; try rfl) rfl ?_
  exact ⟨_,rfl,none,0,0,none,0,0,rfl,sl_nil _,sl_nil _,newAt_nil _,newAt_nil _,(Uh HB).trans (c4.below (Uh HB).size (fun k hk => by omega))⟩

set_option maxHeartbeats 8000000 in
set_option maxRecDepth 100000 in
theorem ratpow_zero (g:Bool) (a b:Option Addr) (n c m d:Nat) (x y:List Nat) (k:Int) (w:World) (hx:Sl w a n c x) (hy:Sl w b m d y) (ox:Ok x) (oy:Ok y) (hT:Tab64 w) (hm:MayR g x y = true) (hk1:-1024 ≤ k) (hk2:k < 0) (hz:n = 0) :
  Calls Tryz.prog 18 #[ratV g a n c b m d,.int .i64 k] w fun e w' => ResR w w' false [] [] 3 e:=by
 have bx:=Box.made w g a n c b m d
 obtain ⟨wa,hwa⟩:∃ wa,ratBox w g a n c b m d = wa:=⟨_,rfl⟩
 rw [hwa] at bx
 obtain ⟨wb,hwb⟩:∃ wb,wa.alloc (.cells #[.bool false,.slice none 0 0,.slice none 0 0] 25) = wb:=⟨_,rfl⟩
 have hba:Below w.heap.size w wa:=by rw [← hwa]; exact bAl
 have hbb:Below wa.heap.size wa wb:=by rw [← hwb]; exact bAl
 have hO:Out wb wa.heap.size:=by rw [← hwb]; exact Out.made wa
 have hoR:Out wb w.heap.size:=by
  have h0:=bx.keep hbb
  unfold ratBox at hwa
  refine ⟨fun i hi => ?_,fun i hi => ?_,h0.lt⟩
  ·match i,hi with
   | 0,_ => exact ⟨_,h0.d0⟩
   | 1,_ => exact ⟨_,h0.d1⟩
   | 2,_ => exact ⟨_,h0.d2⟩
  ·match i,hi with
   | 0,_ => rw [← hwb,← hwa]; simp
   | 1,_ => rw [← hwb,← hwa]; simp
   | 2,_ => rw [← hwb,← hwa]; simp
 have hX:=bx.keep hbb
 have hB:=hba.trans (hbb.mono hba.size)
 have hlt:=bx.lt
 have d0:=hX.d0
 have d1:=hX.d1
 have d2:=hX.d2
 unfold ratBox at hwa
 have KM:=ratMay_any g a b n c m d x y wb (hx.below hB) (hy.below hB) ox oy (hT.below hB)
 rw [hm] at KM
 have HKM:=Hj KM
 have HX:=Hj (And.intro hX (And.intro hO (And.intro hoR hB)))
 have HS:=Hj (And.intro hx hy)
 have HLn:=Hj hx.len
 unfold ratV at HKM ⊢
 clear bx hX hO hoR hB hba hbb KM hx hy hT
 have u1:¬ k < -1024:=by omega
 have u2:¬ 1024 < k:=by omega
 have HZ:=Hj hz
 clear hz
 go_enter Tryz.func18,Tryz.ntmps18
 go_wp2_with fail
 refine (Uh HKM).mono ?_
 rintro _ wl ⟨rfl,b1⟩
 have HY:=Hj (And.intro ((Uh HX).1.keep b1) (And.intro ((Uh HX).2.1.keep b1) (And.intro ((Uh HX).2.2.1.keep b1) ((Uh HX).2.2.2.trans (b1.mono (Uh HX).2.2.2.size)))))
 clear b1 HKM HX d0 d1 d2
 have z:=(Uh HY).1
 have e0:=z.d0
 have e1:=z.d1
 have e2:=z.d2
 have KZ:=isZero_any g a b n c m d wl
 rw [decide_eq_true (Uh HZ)] at KZ
 have HKZ:=Hj KZ
 unfold ratV at HKZ
 clear z KZ
 go_wp2_with fail
 refine (Uh HKZ).mono ?_
 rintro _ wl2 ⟨rfl,b2⟩
 have HY2:=Hj (And.intro ((Uh HY).1.keep b2) (And.intro ((Uh HY).2.1.keep b2) (And.intro ((Uh HY).2.2.1.keep b2) ((Uh HY).2.2.2.trans (b2.mono (Uh HY).2.2.2.size)))))
 clear b2 HKZ HY e0 e1 e2
 have hO1:=(Uh HY2).2.1
 obtain ⟨x0,q0⟩:=hO1.cells 0 (by decide)
 obtain ⟨x1,q1⟩:=hO1.cells 1 (by decide)
 obtain ⟨x2,q2⟩:=hO1.cells 2 (by decide)
 have r0:=hO1.fz 0 (by decide)
 have r1:=hO1.fz 1 (by decide)
 have r2:=hO1.fz 2 (by decide)
 have H4:=Hj (three_set wl2 wa.heap.size (.bool false) (.slice none 0 0) (.slice none 0 0) hO1.cells)
 have HB:=Hj (Uh HY2).2.2.2
 clear hO1
 go_wp2_with fail
 obtain ⟨p0,p1,p2,c4⟩:=Uh H4
 generalize ((wl2.setCell ⟨wa.heap.size,0,none⟩ (.bool false)).setCell ⟨wa.heap.size,1,none⟩ (.slice none 0 0)).setCell ⟨wa.heap.size,2,none⟩ (.slice none 0 0) = wf at *
 refine bodyPost_ret (by simp [results,Tryz.results18,go_sem,p0,p1,p2]; try rfl) rfl ?_
 exact ⟨_,rfl,none,0,0,none,0,0,rfl,sl_nil _,sl_nil _,newAt_nil _,newAt_nil _,(Uh HB).trans (c4.below (Uh HB).size (fun k hk => by omega))⟩

set_option maxHeartbeats 8000000 in
set_option maxRecDepth 100000 in
theorem ratpow_pos (g:Bool) (a b:Option Addr) (n c m d:Nat) (x y:List Nat) (kk:Nat) (w:World) (hx:Sl w a n c x) (hy:Sl w b m d y) (ox:Ok x) (oy:Ok y) (hT:Tab64 w) (hm:MayR g x y = true) (hkk:kk ≤ 1024) :
  Calls Tryz.prog 18 #[ratV g a n c b m d,.int .i64 (kk:Int)] w fun e w' => ResR w w' (pwF g x y kk).1.1 (pwF g x y kk).1.2.1 (pwF g x y kk).1.2.2 (pwF g x y kk).2 e:=by
 have HMM:=Hj (And.intro (MayR.parts hm).1 (MayR.parts hm).2.1)
 obtain ⟨N,hN⟩:∃ N,val x ^ kk = N:=⟨_,rfl⟩
 obtain ⟨M,hM⟩:∃ M,val y ^ kk = M:=⟨_,rfl⟩
 obtain ⟨SB,hSB⟩:∃ SB,(g && decide (kk % 2 = 1)) = SB:=⟨_,rfl⟩
 unfold pwF
 rw [hN,hM,hSB]
 obtain ⟨RR,hRR⟩:∃ r,(if bigN N || bigN M then (((false,[],[]),2):(Bool × List Nat × List Nat) × Int) else ((SB && decide (N ≠ 0),limbs N,limbs M),0)) = r:=⟨_,rfl⟩
 rw [hRR]
 have HRR:=Hj hRR
 clear hRR
 have HNM:=Hj (And.intro hN hM)
 have HPAR:=Hj (show (g = false ∧ SB = false) ∨ (g = true ∧ kk % 2 = 1 ∧ SB = true) ∨ (g = true ∧ kk % 2 = 0 ∧ SB = false) by
  cases g
  ·exact .inl ⟨rfl,by rw [← hSB]; rfl⟩
  ·rcases (show kk % 2 = 1 ∨ kk % 2 = 0 by omega) with h | h
   ·exact .inr (.inl ⟨rfl,h,by rw [← hSB]; simp [h]⟩)
   ·exact .inr (.inr ⟨rfl,h,by rw [← hSB]; simp [h]⟩))
 clear hN hM hSB
 have bx:=Box.made w g a n c b m d
 obtain ⟨wa,hwa⟩:∃ wa,ratBox w g a n c b m d = wa:=⟨_,rfl⟩
 rw [hwa] at bx
 obtain ⟨wb,hwb⟩:∃ wb,wa.alloc (.cells #[.bool false,.slice none 0 0,.slice none 0 0] 25) = wb:=⟨_,rfl⟩
 have hba:Below w.heap.size w wa:=by rw [← hwa]; exact bAl
 have hbb:Below wa.heap.size wa wb:=by rw [← hwb]; exact bAl
 have hO:Out wb wa.heap.size:=by rw [← hwb]; exact Out.made wa
 have hoR:Out wb w.heap.size:=by
  have h0:=bx.keep hbb
  unfold ratBox at hwa
  refine ⟨fun i hi => ?_,fun i hi => ?_,h0.lt⟩
  ·match i,hi with
   | 0,_ => exact ⟨_,h0.d0⟩
   | 1,_ => exact ⟨_,h0.d1⟩
   | 2,_ => exact ⟨_,h0.d2⟩
  ·match i,hi with
   | 0,_ => rw [← hwb,← hwa]; simp
   | 1,_ => rw [← hwb,← hwa]; simp
   | 2,_ => rw [← hwb,← hwa]; simp
 have hX:=bx.keep hbb
 have hB:=hba.trans (hbb.mono hba.size)
 have hlt:=bx.lt
 have d0:=hX.d0
 have d1:=hX.d1
 have d2:=hX.d2
 unfold ratBox at hwa
 have KM:=ratMay_any g a b n c m d x y wb (hx.below hB) (hy.below hB) ox oy (hT.below hB)
 rw [hm] at KM
 have HKM:=Hj KM
 have HX:=Hj (And.intro hX (And.intro hO (And.intro hoR hB)))
 have HS:=Hj (And.intro hx hy)
 have HLn:=Hj hx.len
 unfold ratV at HKM ⊢
 clear bx hX hO hoR hB hba hbb KM hx hy hT
 have u1:¬ (kk:Int) < -1024:=by omega
 have u2:¬ 1024 < (kk:Int):=by omega
 have u3:¬ (kk:Int) < 0:=by omega
 go_enter Tryz.func18,Tryz.ntmps18
 go_wp2_with fail
 refine (Uh HKM).mono ?_
 rintro _ wl ⟨rfl,b1⟩
 have HY:=Hj (And.intro ((Uh HX).1.keep b1) (And.intro ((Uh HX).2.1.keep b1) (And.intro ((Uh HX).2.2.1.keep b1) ((Uh HX).2.2.2.trans (b1.mono (Uh HX).2.2.2.size)))))
 clear b1 HKM HX d0 d1 d2
 have HSL:=Hj (And.intro ((Uh HS).1.below (Uh HY).2.2.2) ((Uh HS).2.below (Uh HY).2.2.2))
 have e0:=(Uh HY).1.d0
 have e1:=(Uh HY).1.d1
 have e2:=(Uh HY).1.d2
 have mX:=(Uh HMM).1
 have mY:=(Uh HMM).2
 have z:=(Uh HY).1
 have KN:=npow_any a n c x (kk:Int) wl (Uh HSL).1 ox
 rw [powL_fit mX hkk,(Uh HNM).1] at KN
 have HKN:=Hj KN
 clear KN z
 go_wp2_with fail
 refine (Uh HKN).mono ?_
 rintro _ w1 ⟨aq,mq,cq,rfl,sq,nq,bq⟩
 have KM:=npow_any b m d y (kk:Int) w1 ((Uh HSL).2.below bq) oy
 rw [powL_fit mY hkk,(Uh HNM).2] at KM
 have HKM2:=Hj KM
 have q0:=(ck bq e0)
 have q2:=(ck bq e2)
 have HQ:=Hj (And.intro sq (And.intro nq bq))
 clear KM sq nq bq HKN
 go_wp2_with fail
 refine (Uh HKM2).mono ?_
 rintro _ w2 ⟨az,mz,cz,rfl,sz,nz,bz⟩
 have t0:=(ck bz q0)
 have hb2:=(Uh HQ).2.2.trans (bz.mono (Uh HQ).2.2.size)
 have hlo:=(Uh HY).2.1.lt
 have HNE:=Hj (And.intro (fun x hx => by have h1:=(Uh HQ).2.1 x hx; omega:∀ x,aq = some x → x.block ≠ wa.heap.size) (fun x hx => by have h1:=nz x hx; have h2:=(Uh HQ).2.2.size; omega:∀ x,az = some x → x.block ≠ wa.heap.size))
 have HP:=Hj (And.intro ((Uh HQ).1.below bz) (And.intro sz (And.intro (fun x hx => by have h1:=(Uh HQ).2.1 x hx; have h2:=(Uh HY).2.2.2.size; omega:NewAt w.heap.size aq) (And.intro (fun x hx => by have h1:=nz x hx; have h2:=(Uh HQ).2.2.size; have h3:=(Uh HY).2.2.2.size; omega:NewAt w.heap.size az) (And.intro ((Uh HY).2.2.2.trans (hb2.mono (Uh HY).2.2.2.size)) ((Uh HY).2.1.keep hb2))))))
 clear HQ sz nz bz hb2 hlo HKM2 HY HSL e0 e1 e2 q0 q2 mX mY HNM
 cases hbN:bigN N
 ·cases hbM:bigN M
  ·have eN:fitL N = (limbs N,0):=fitL_ok (by unfold bigN at hbN; simpa using hbN)
   have eM:fitL M = (limbs M,0):=fitL_ok (by unfold bigN at hbM; simpa using hbM)
   rw [eN,eM] at HP
   rw [eN,eM]
   dsimp only at HP ⊢
   have K:=answer_any SB aq az mq cq mz cz 0 w2
   unfold AnPost at K
   rw [if_pos rfl] at K
   unfold ratV at K
   obtain ⟨SG,hSG⟩:∃ SG,(SB && decide (0 < mq)) = SG:=⟨_,rfl⟩
   rw [hSG] at K
   have HSG:=Hj hSG
   have HK:=Hj K
   have HBB:=Hj (And.intro hbN hbM)
   clear K eN eM hbN hbM hSG
   rcases Uh HPAR with ⟨hg,hs⟩ | ⟨hg,hk2,hs⟩ | ⟨hg,hk2,hs⟩
   all_goals
    subst hg
    subst hs
    try (have k1:(kk:Int) % 2 = 1:=by omega)
    try (have k1:(kk:Int) % 2 = 0:=by omega)
    go_wp2_with fail
    refine (Uh HK).mono ?_
    rintro _ wy ⟨rfl,hby⟩
    have hO3:=(Uh HP).2.2.2.2.2.keep hby
    obtain ⟨i0,o0⟩:=hO3.cells 0 (by decide)
    obtain ⟨i1,o1⟩:=hO3.cells 1 (by decide)
    obtain ⟨i2,o2⟩:=hO3.cells 2 (by decide)
    have r0:=hO3.fz 0 (by decide)
    have r1:=hO3.fz 1 (by decide)
    have r2:=hO3.fz 2 (by decide)
    have H4:=Hj (three_set wy wa.heap.size (.bool SG) (.slice aq mq cq) (.slice az mz cz) hO3.cells)
    have HBy:=Hj hby
    clear hO3 hby HK
    go_wp2_with fail
    obtain ⟨t0,t1,t2,c4⟩:=Uh H4
    generalize ((wy.setCell ⟨wa.heap.size,0,none⟩ (.bool SG)).setCell ⟨wa.heap.size,1,none⟩ (.slice aq mq cq)).setCell ⟨wa.heap.size,2,none⟩ (.slice az mz cz) = wk at *
    refine bodyPost_ret (by simp [results,Tryz.results18,go_sem,t0,t1,t2]; try rfl) rfl ?_
    have hRr:=Uh HRR
    rw [(Uh HBB).1,(Uh HBB).2] at hRr
    rw [← hRr]
    have hBy:Below w.heap.size w wy:=(Uh HP).2.2.2.2.1.trans ((Uh HBy).mono (Uh HP).2.2.2.2.1.size)
    have hln:=(Uh HP).1.len
    refine ⟨_,rfl,aq,mq,cq,az,mz,cz,?_,((Uh HP).1.below (Uh HBy)).chg c4 (fun x hx _ => (Uh HNE).1 x hx),((Uh HP).2.1.below (Uh HBy)).chg c4 (fun x hx _ => (Uh HNE).2 x hx),(Uh HP).2.2.1,(Uh HP).2.2.2.1,hBy.trans (c4.below hBy.size (fun k hk => by omega))⟩
    unfold ratV
    rw [← Uh HSG,Tok.len_pos hln]
    rfl
  ·have eN:fitL N = (limbs N,0):=fitL_ok (by unfold bigN at hbN; simpa using hbN)
   have eM:fitL M = ([],2):=fitL_big (by unfold bigN at hbM; simpa using hbM)
   rw [eN,eM] at HP
   rw [eN,eM]
   dsimp only at HP ⊢
   have K:=answer_any SB aq az mq cq mz cz 2 w2
   unfold AnPost at K
   rw [if_neg (by decide)] at K
   unfold ratV at K
   have HK:=Hj K
   have HBB:=Hj (And.intro hbN hbM)
   clear K eN eM hbN hbM
   rcases Uh HPAR with ⟨hg,hs⟩ | ⟨hg,hk2,hs⟩ | ⟨hg,hk2,hs⟩
   all_goals
    subst hg
    subst hs
    try (have k1:(kk:Int) % 2 = 1:=by omega)
    try (have k1:(kk:Int) % 2 = 0:=by omega)
    go_wp2_with fail
    refine (Uh HK).mono ?_
    rintro _ wy ⟨rfl,hby⟩
    have hO3:=(Uh HP).2.2.2.2.2.keep hby
    obtain ⟨i0,o0⟩:=hO3.cells 0 (by decide)
    obtain ⟨i1,o1⟩:=hO3.cells 1 (by decide)
    obtain ⟨i2,o2⟩:=hO3.cells 2 (by decide)
    have r0:=hO3.fz 0 (by decide)
    have r1:=hO3.fz 1 (by decide)
    have r2:=hO3.fz 2 (by decide)
    have H4:=Hj (three_set wy wa.heap.size (.bool false) (.slice none 0 0) (.slice none 0 0) hO3.cells)
    have HBy:=Hj hby
    clear hO3 hby HK
    go_wp2_with fail
    obtain ⟨t0,t1,t2,c4⟩:=Uh H4
    generalize ((wy.setCell ⟨wa.heap.size,0,none⟩ (.bool false)).setCell ⟨wa.heap.size,1,none⟩ (.slice none 0 0)).setCell ⟨wa.heap.size,2,none⟩ (.slice none 0 0) = wk at *
    refine bodyPost_ret (by simp [results,Tryz.results18,go_sem,t0,t1,t2]; try rfl) rfl ?_
    rw [show RR = ((false,[],[]),2) from by rw [← Uh HRR,(Uh HBB).1,(Uh HBB).2]; rfl]
    have hBy:Below w.heap.size w wy:=(Uh HP).2.2.2.2.1.trans ((Uh HBy).mono (Uh HP).2.2.2.2.1.size)
    exact ⟨_,rfl,none,0,0,none,0,0,rfl,sl_nil _,sl_nil _,newAt_nil _,newAt_nil _,hBy.trans (c4.below hBy.size (fun k hk => by omega))⟩
 ·cases hbM:bigN M
  ·have eN:fitL N = ([],2):=fitL_big (by unfold bigN at hbN; simpa using hbN)
   have eM:fitL M = (limbs M,0):=fitL_ok (by unfold bigN at hbM; simpa using hbM)
   rw [eN,eM] at HP
   rw [eN,eM]
   dsimp only at HP ⊢
   have K:=answer_any SB aq az mq cq mz cz 2 w2
   unfold AnPost at K
   rw [if_neg (by decide)] at K
   unfold ratV at K
   have HK:=Hj K
   have HBB:=Hj (And.intro hbN hbM)
   clear K eN eM hbN hbM
   rcases Uh HPAR with ⟨hg,hs⟩ | ⟨hg,hk2,hs⟩ | ⟨hg,hk2,hs⟩
   all_goals
    subst hg
    subst hs
    try (have k1:(kk:Int) % 2 = 1:=by omega)
    try (have k1:(kk:Int) % 2 = 0:=by omega)
    go_wp2_with fail
    refine (Uh HK).mono ?_
    rintro _ wy ⟨rfl,hby⟩
    have hO3:=(Uh HP).2.2.2.2.2.keep hby
    obtain ⟨i0,o0⟩:=hO3.cells 0 (by decide)
    obtain ⟨i1,o1⟩:=hO3.cells 1 (by decide)
    obtain ⟨i2,o2⟩:=hO3.cells 2 (by decide)
    have r0:=hO3.fz 0 (by decide)
    have r1:=hO3.fz 1 (by decide)
    have r2:=hO3.fz 2 (by decide)
    have H4:=Hj (three_set wy wa.heap.size (.bool false) (.slice none 0 0) (.slice none 0 0) hO3.cells)
    have HBy:=Hj hby
    clear hO3 hby HK
    go_wp2_with fail
    obtain ⟨t0,t1,t2,c4⟩:=Uh H4
    generalize ((wy.setCell ⟨wa.heap.size,0,none⟩ (.bool false)).setCell ⟨wa.heap.size,1,none⟩ (.slice none 0 0)).setCell ⟨wa.heap.size,2,none⟩ (.slice none 0 0) = wk at *
    refine bodyPost_ret (by simp [results,Tryz.results18,go_sem,t0,t1,t2]; try rfl) rfl ?_
    rw [show RR = ((false,[],[]),2) from by rw [← Uh HRR,(Uh HBB).1,(Uh HBB).2]; rfl]
    have hBy:Below w.heap.size w wy:=(Uh HP).2.2.2.2.1.trans ((Uh HBy).mono (Uh HP).2.2.2.2.1.size)
    exact ⟨_,rfl,none,0,0,none,0,0,rfl,sl_nil _,sl_nil _,newAt_nil _,newAt_nil _,hBy.trans (c4.below hBy.size (fun k hk => by omega))⟩
  ·have eN:fitL N = ([],2):=fitL_big (by unfold bigN at hbN; simpa using hbN)
   have eM:fitL M = ([],2):=fitL_big (by unfold bigN at hbM; simpa using hbM)
   rw [eN,eM] at HP
   rw [eN,eM]
   dsimp only at HP ⊢
   have K:=answer_any SB aq az mq cq mz cz 2 w2
   unfold AnPost at K
   rw [if_neg (by decide)] at K
   unfold ratV at K
   have HK:=Hj K
   have HBB:=Hj (And.intro hbN hbM)
   clear K eN eM hbN hbM
   rcases Uh HPAR with ⟨hg,hs⟩ | ⟨hg,hk2,hs⟩ | ⟨hg,hk2,hs⟩
   all_goals
    subst hg
    subst hs
    try (have k1:(kk:Int) % 2 = 1:=by omega)
    try (have k1:(kk:Int) % 2 = 0:=by omega)
    go_wp2_with fail
    refine (Uh HK).mono ?_
    rintro _ wy ⟨rfl,hby⟩
    have hO3:=(Uh HP).2.2.2.2.2.keep hby
    obtain ⟨i0,o0⟩:=hO3.cells 0 (by decide)
    obtain ⟨i1,o1⟩:=hO3.cells 1 (by decide)
    obtain ⟨i2,o2⟩:=hO3.cells 2 (by decide)
    have r0:=hO3.fz 0 (by decide)
    have r1:=hO3.fz 1 (by decide)
    have r2:=hO3.fz 2 (by decide)
    have H4:=Hj (three_set wy wa.heap.size (.bool false) (.slice none 0 0) (.slice none 0 0) hO3.cells)
    have HBy:=Hj hby
    clear hO3 hby HK
    go_wp2_with fail
    obtain ⟨t0,t1,t2,c4⟩:=Uh H4
    generalize ((wy.setCell ⟨wa.heap.size,0,none⟩ (.bool false)).setCell ⟨wa.heap.size,1,none⟩ (.slice none 0 0)).setCell ⟨wa.heap.size,2,none⟩ (.slice none 0 0) = wk at *
    refine bodyPost_ret (by simp [results,Tryz.results18,go_sem,t0,t1,t2]; try rfl) rfl ?_
    rw [show RR = ((false,[],[]),2) from by rw [← Uh HRR,(Uh HBB).1,(Uh HBB).2]; rfl]
    have hBy:Below w.heap.size w wy:=(Uh HP).2.2.2.2.1.trans ((Uh HBy).mono (Uh HP).2.2.2.2.1.size)
    exact ⟨_,rfl,none,0,0,none,0,0,rfl,sl_nil _,sl_nil _,newAt_nil _,newAt_nil _,hBy.trans (c4.below hBy.size (fun k hk => by omega))⟩
theorem pnI_and (g:Bool) (N:Nat):nI (g && decide (N ≠ 0)) N = nI g N:=by
 by_cases h:N = 0
 ·subst h; cases g <;> rfl
 ·rw [decide_eq_true h,Bool.and_true]
theorem ten_pos (k:Nat):0 < 10 ^ k:=Nat.pow_pos (by decide)
theorem ten_lens {k:Nat} (h:k ≤ 1000):(limbs (10 ^ k)).length ≤ 2048:=by
 have:=ten_len (v:=10 ^ k) (n:=k) (Nat.le_refl _)
 omega
theorem wf_or (g:Bool) (N k:Nat) (hk:k ≤ 1000):WfF g N (10 ^ k) = ((false,[],[]),2) ∨ ∃ gr xr yr,WfF g N (10 ^ k) = ((gr,xr,yr),0) ∧ Ok xr ∧ Ok yr ∧ Fr gr xr yr (nI g N) ((10 ^ k:Nat):Int):=by
 by_cases h:2048 < (limbs N).length
 ·exact .inl (wf_big (.inl h))
 ·have h2:=ten_lens hk
  exact .inr ⟨_,_,_,wf_same (ten_pos k) h (by omega),limbs_ok _,limbs_ok _,fr_low (by omega) h2 (ten_pos k) (ten_pos k) rfl⟩
theorem prd_near {X Y:Nat} (hY:0 < Y):2 * dif X (rdQ X Y * Y) ≤ Y:=by
 have h1:=Nat.div_add_mod X Y
 have h2:=Nat.mod_lt X hY
 rw [Nat.mul_comm] at h1
 unfold rdQ dif
 split
 ·rename_i h
  rw [Nat.add_mul,Nat.one_mul]
  omega
 ·rename_i h
  have h3:¬ Y < X % Y + X % Y:=fun c => h (.inl c)
  omega
theorem fr_le {g1 g2:Bool} {x1 y1 x2 y2:List Nat} {P1 Q1 P2 Q2:Int} (h1:Fr g1 x1 y1 P1 Q1) (h2:Fr g2 x2 y2 P2 Q2) (h:P1 * Q2 ≤ P2 * Q1):CmpF g1 x1 y1 g2 x2 y2 ≤ 0:=by
 rw [cmpF_may h1.may h2.may]
 have yp1:=posI h1.may
 have yp2:=posI h2.may
 have k1:=h1.eq
 have k2:=h2.eq
 have e3:(nI g1 (val x1) * (val y2:Int) - nI g2 (val x2) * (val y1:Int)) * (Q1 * Q2) = (P1 * Q2 - P2 * Q1) * ((val y1:Int) * (val y2:Int)):=by
  generalize nI g1 (val x1) = a at *
  generalize nI g2 (val x2) = b at *
  generalize (val y1:Int) = c at *
  generalize (val y2:Int) = d at *
  grind
 have e4:=congrArg Int.sign e3
 rw [Int.sign_mul _ (Q1 * Q2),Int.sign_mul _ ((val y1:Int) * (val y2:Int)),Int.sign_eq_one_of_pos (Int.mul_pos h1.pos h2.pos),Int.sign_eq_one_of_pos (Int.mul_pos yp1 yp2),Int.mul_one,Int.mul_one] at e4
 rw [e4]
 rcases Int.lt_or_eq_of_le (show P1 * Q2 - P2 * Q1 ≤ 0 by omega) with k | k
 ·rw [Int.sign_eq_neg_one_of_neg k]; decide
 ·rw [k]; decide
theorem may_ten {k:Nat} (hk:k ≤ 1000):MayR false (limbs (10 ^ k)) [1] = true:=by
 have:=may_whole (g:=false) (Q:=10 ^ k) (by unfold bigN; have:=ten_lens hk; simp; omega)
 exact this
theorem fr_ten {k:Nat} (hk:k ≤ 1000):Fr false (limbs (10 ^ k)) [1] ((10 ^ k:Nat):Int) 1:=by
 refine ⟨may_ten hk,by decide,?_⟩
 unfold nI
 rw [lv,val_1s]
 simp
theorem ppow_ten {k:Nat} (hk:k ≤ 1000):PowF false (limbs 10) [1] (k:Int) = ((false,limbs (10 ^ k),[1]),0):=by
 have hm:MayR false (limbs 10) [1] = true:=may_ten (k:=1) (by decide)
 have hb:bigN (10 ^ k) = false:=by unfold bigN; have:=ten_lens hk; simp; omega
 unfold PowF
 rw [if_pos hm,if_neg (by omega),if_neg (by omega),Int.toNat_natCast]
 unfold pwF
 rw [lv,val_1s,Nat.one_pow,hb,big_1,limbs_1]
 rfl
theorem fr_one:Fr false [1] [1] 1 1:=⟨may_11,by decide,by unfold nI; rw [val_1s]; simp⟩
theorem pl_last {X Y N k:Nat} {xd yd xp yp xt yt:List Nat} {gp gt:Bool} (hk:k ≤ 1000) (hY:0 < Y) (hN:N = rdQ (X * 10 ^ k) Y) (hd:MayR false xd yd = true) (he:val xd * (Y * 10 ^ k) = dif (X * 10 ^ k) (N * Y) * val yd)
  (hM:MulF false xd yd false (limbs (10 ^ k)) [1] = ((gp,xp,yp),0)) (hA:AddF gp xp yp gp xp yp = ((gt,xt,yt),0)):CmpF gt xt yt false [1] [1] ≤ 0:=by
 have hn:=prd_near (X:=X * 10 ^ k) hY
 rw [← hN] at hn
 have hu:=ten_pos k
 have ht:=fr_ten hk
 generalize 10 ^ k = U at *
 generalize dif (X * U) (N * Y) = D at *
 have f1:Fr false xd yd (D:Int) ((Y * U:Nat):Int):=by
  refine ⟨hd,by have:=Nat.mul_pos hY hu; omega,?_⟩
  unfold nI
  rw [if_neg (by decide)]
  exact_mod_cast he
 have f2:=f1.mul ht hM
 have f3:=f2.add f2 hA
 refine fr_le f3 fr_one ?_
 have hle:(D:Int) * (U:Int) + (D:Int) * (U:Int) ≤ ((Y * U:Nat):Int) * 1:=by
  have h1:D * U + D * U ≤ Y * U:=by
   rw [← Nat.add_mul]
   exact Nat.mul_le_mul_right U (by omega)
  rw [Int.mul_one]
  exact_mod_cast h1
 have hQ:0 ≤ ((Y * U:Nat):Int) * 1:=by omega
 generalize ((Y * U:Nat):Int) * 1 = Q at *
 generalize (D:Int) * (U:Int) = P at *
 have:=Int.mul_le_mul_of_nonneg_right hle hQ
 rw [Int.add_mul] at this
 omega
theorem mulF_oks (g1 g2:Bool) (x1 y1 x2 y2:List Nat):Ok (MulF g1 x1 y1 g2 x2 y2).1.2.1 ∧ Ok (MulF g1 x1 y1 g2 x2 y2).1.2.2:=by
 unfold MulF
 split
 ·split
  ·exact ⟨ok_nil,ok_nil⟩
  ·exact ⟨limbs_ok _,limbs_ok _⟩
 ·exact ⟨ok_nil,ok_nil⟩
theorem addF_oks (g1 g2:Bool) (x1 y1 x2 y2:List Nat):Ok (AddF g1 x1 y1 g2 x2 y2).1.2.1 ∧ Ok (AddF g1 x1 y1 g2 x2 y2).1.2.2:=by
 unfold AddF
 split
 ·split
  ·exact ⟨ok_nil,ok_nil⟩
  ·exact ⟨limbs_ok _,limbs_ok _⟩
 ·exact ⟨ok_nil,ok_nil⟩
structure PlS (s:ByteArray) (g:Bool) (x y:List Nat) (k N D:Nat) (gs:Bool):Prop where
 top:s.size ≤ 65536
 num:N = rdQ (val x * 10 ^ k) (val y)
 neg:nI gs N = nI g N
 dot:∀ q,q < s.size → (byA s q = 46 ↔ q = D)
 zero:k = 0 → D = s.size
 more:k ≠ 0 → D < s.size ∧ s.size = D + 1 + k
 parse:∀ W,Tab64 W → TabBh W → Calls Tryz.prog 8 #[.string s] W fun e w' => PsPost W w' (WfF gs N (10 ^ k)).1.1 (WfF gs N (10 ^ k)).1.2.1 (WfF gs N (10 ^ k)).1.2.2 0 (WfF gs N (10 ^ k)).2 e
theorem pl_of {g:Bool} {x y:List Nat} {k:Nat} {s:ByteArray} {er:Int} (ox:Ok x) (hm:MayR g x y = true) (hk:k ≤ 1000) (h:DcR g x y (k:Int) s er):er = 0 ∧ ∃ N D gs,PlS s g x y k N D gs:=by
 cases h with
 | bad h => rw [hm] at h; cases h
 | arg h hp => omega
 | text k' L N h hk1 hk2 hN ht =>
  obtain rfl:k = k':=by omega
  refine ⟨rfl,N,(mnL (g && decide (N ≠ 0))).length + L,g && decide (N ≠ 0),?_⟩
  rw [dc_text]
  obtain ⟨kx,ky,ey,_,_⟩:=MayR.parts hm
  have hp:=ht.pos
  have hL:L ≤ 40000:=by
   rcases ht.ge with e | e
   ·omega
   ·have h1:N ≤ val x * 10 ^ k:=by rw [hN]; exact rdQ_le (mayR_pos hm)
    have h2:N / 10 ^ k ≤ val x:=by
     have:=Nat.div_le_div_right (c:=10 ^ k) h1
     rwa [Nat.mul_div_cancel _ (ten_pos k)] at this
    have h3:=val_lt ox
    rw [pow_limb] at h3
    have h4:=MayL.len kx
    have h5:(2:Nat) ^ (3 * (L - 1)) ≤ 10 ^ (L - 1):=by
     rw [Nat.pow_mul]
     exact Nat.pow_le_pow_left (by decide) _
    have h6:(2:Nat) ^ (3 * (L - 1)) < 2 ^ (32 * x.length):=Nat.lt_of_le_of_lt (Nat.le_trans h5 (Nat.le_trans e h2)) h3
    have h7:=(Nat.pow_lt_pow_iff_right (a:=2) (by decide)).1 h6
    omega
  have hlt:N < 10 ^ (L + k):=by
   have h1:=ht.lt
   rw [Nat.div_lt_iff_lt_mul (ten_pos k),← Nat.pow_add] at h1
   exact h1
  have hneg:=pnI_and g N
  generalize (g && decide (N ≠ 0)) = gs at *
  have hml:(mnL gs).length ≤ 1:=by cases gs <;> decide
  have hz:=dt_size (g:=gs) (A:=N / 10 ^ k) (L:=L) (B:=N % 10 ^ k) (k:=k)
  refine ⟨by split at hz <;> omega,hN,hneg,fun q hq => ?_,fun h0 => by rw [hz,if_pos h0]; omega,fun h0 => by rw [hz,if_neg h0]; omega,fun W hT hB => rparse_dec gs N L k W hT hB hp hL hk2 hlt⟩
  by_cases c1:q < (mnL gs).length
  ·have h0:q = 0:=by omega
   subst h0
   cases gs
   ·exact absurd c1 (by decide)
   ·have h1:=((dt_hd (g:=true) (A:=N / 10 ^ k) (L:=L) (B:=N % 10 ^ k) (k:=k) hp).yes rfl).2
    rw [kd_two hq] at h1
    constructor
    ·intro c; omega
    ·intro c; omega
  ·by_cases c2:q < (mnL gs).length + L
   ·have h1:=dt_one (g:=gs) (A:=N / 10 ^ k) (L:=L) (B:=N % 10 ^ k) (k:=k) (q:=q - (mnL gs).length) (by omega)
    rw [show (mnL gs).length + (q - (mnL gs).length) = q by omega] at h1
    constructor
    ·intro c; omega
    ·intro c; omega
   ·have h0:k ≠ 0:=fun c => by rw [hz,if_pos c] at hq; omega
    rw [hz,if_neg h0] at hq
    by_cases c3:q = (mnL gs).length + L
    ·subst c3
     exact ⟨fun _ => rfl,fun _ => dt_dot h0⟩
    ·have h1:=dt_two (g:=gs) (A:=N / 10 ^ k) (L:=L) (B:=N % 10 ^ k) (k:=k) (q:=q - ((mnL gs).length + L + 1)) (by omega)
     rw [show (mnL gs).length + L + 1 + (q - ((mnL gs).length + L + 1)) = q by omega] at h1
     constructor
     ·intro c; omega
     ·intro c; omega
theorem rp_num {X Y U:Nat} (hY:0 < Y):X * U / Y = X / Y * U + X % Y * U / Y ∧ X * U % Y = X % Y * U % Y:=by
 have e:X * U = Y * (X / Y * U) + X % Y * U:=by
  rw [← Nat.mul_assoc,← Nat.add_mul,Nat.div_add_mod]
 constructor
 ·conv => lhs; rw [e]
  rw [Nat.mul_add_div hY]
 ·conv => lhs; rw [e]
  rw [Nat.mul_add_mod]
theorem rp_lt {X Y U:Nat} (hY:0 < Y) (hU:0 < U):X % Y * U / Y < U:=by
 rw [Nat.div_lt_iff_lt_mul hY,Nat.mul_comm U Y]
 exact Nat.mul_lt_mul_of_pos_right (Nat.mod_lt _ hY) hU
theorem rp_fin {X Y U L:Nat} (hY:0 < Y) (hodd:X * U / Y % 2 = L % 2) {up:Bool} (hup:(decide (Y < X % Y * U % Y + X % Y * U % Y) || (decide (Y = X % Y * U % Y + X % Y * U % Y) && decide (L % 2 = 1))) = up) :
  rdQ (X * U) Y = X / Y * U + (X % Y * U / Y + if up then 1 else 0):=by
 unfold rdQ
 rw [(rp_num hY).2,hodd,(rp_num hY).1]
 cases up
 ·rw [if_neg]
  ·simp
  ·intro h
   simp only [Bool.or_eq_false_iff,Bool.and_eq_false_iff,decide_eq_false_iff_not] at hup
   rcases h with h | ⟨h1,h2⟩
   ·exact hup.1 h
   ·rcases hup.2 with h3 | h3
    ·exact h3 h1
    ·exact h3 h2
 ·rw [if_pos]
  ·simp [Nat.add_assoc]
  ·simp only [Bool.or_eq_true,Bool.and_eq_true,decide_eq_true_eq] at hup
   exact hup
theorem rp_odd0 {X Y k:Nat} (hk:k = 0):X * 10 ^ k / Y % 2 = X / Y % 2:=by subst hk; simp
theorem rp_odd1 {X Y k:Nat} (hY:0 < Y) (hk:k ≠ 0):X * 10 ^ k / Y % 2 = X % Y * 10 ^ k / Y % 2:=by
 rw [(rp_num hY).1]
 obtain ⟨j,rfl⟩:∃ j,k = j + 1:=⟨k - 1,by omega⟩
 have e:X / Y * 10 ^ (j + 1) = 2 * (X / Y * (5 * 10 ^ j)):=by
  rw [Nat.pow_succ,show (10:Nat) = 5 * 2 from rfl]
  simp only [Nat.mul_assoc,Nat.mul_left_comm,Nat.mul_comm]
 rw [e,Nat.mul_add_mod]
theorem rp_left {X Y U:Nat} (hY:0 < Y) (hU:0 < U) (h:X % Y * U / Y + 1 = U) {c:Bool} (hup:(decide (Y < X % Y * U % Y + X % Y * U % Y) || (decide (Y = X % Y * U % Y + X % Y * U % Y) && c)) = true):X % Y ≠ 0:=by
 intro e
 rw [e] at hup
 simp at hup
 omega

def RpPost (w w':World) (X Y U:Nat) (e:Ending):Prop:=∃ a1 m1 c1 a2 m2 c2 A Bv,e = .returned (.tuple #[.slice a1 m1 c1,.slice a2 m2 c2]) ∧ (Sl w' a1 m1 c1 (limbs A) ∧ Sl w' a2 m2 c2 (limbs Bv)) ∧ (A * U + Bv = rdQ (X * U) Y ∧ Bv < U) ∧ (MayL (limbs A) = true ∧ MayL (limbs Bv) = true) ∧ Below w.heap.size w w'
end Go.Proofs.YtmnlhnmlgncedaaGreatDoor
namespace Go.Proofs.YtmnlhnmlgncedaaGreatDoor
open Go.RowKit Go.Deep
set_option linter.unusedVariables false
open Go.RowKit Go.Deep
set_option linter.unusedVariables false
set_option maxHeartbeats 1000000 in
theorem nbit_any (a:Option Addr) (n c:Nat) (xs:List Nat) (i:Nat) (w:World) (h:Sl w a n c xs) (ox:Ok xs) (m:MayL xs = true) (hi:i ≤ 9223372036854775807) :
  Calls Tryz.prog 98 #[.slice a n c,.int .i64 (i:Nat)] w fun e w' => e = .returned (.int .i64 (bitN (val xs) i:Nat)) ∧ w' = w:=by
 have K1:=may_any a n c xs w h
 rw [m] at K1
 have K1':=Hj K1
 have KL:=limbAt_any a n c xs ((i / 32:Nat):Int) w h (by omega)
 rw [show (((i / 32:Nat):Int)).toNat = i / 32 from Int.toNat_natCast _] at KL
 rw [bit_limb ox (l:=i / 32) (s:=i % 32) rfl rfl]
 have bx:=ox.getD (i / 32)
 generalize xs.getD (i / 32) 0 = x at *
 obtain ⟨l,hl⟩:∃ l,i / 32 = l:=⟨_,rfl⟩
 obtain ⟨s,hs⟩:∃ s,i % 32 = s:=⟨_,rfl⟩
 have hs32:s < 32:=by omega
 rw [hl] at KL
 rw [hs]
 have KL':=Hj KL
 have hl2:(i:Int).tdiv 32 = (l:Int):=by rw [Int.tdiv_eq_ediv_of_nonneg (by omega)]; omega
 have hs2:(i:Int).tmod 32 = (s:Int):=by rw [Int.tmod_eq_emod_of_nonneg (by omega)]; omega
 have hl3:(i:Int) / 32 = (l:Int):=by omega
 have hs3:(i:Int) % 32 = (s:Int):=by omega
 have hy:=shr_lt (s:=s) bx
 have e1:(x:Int) / 2 ^ s = ((x / 2 ^ s:Nat):Int):=by rw [Int.natCast_ediv,Int.natCast_pow]; rfl
 have e2:=and_one _ hy
 generalize x / 2 ^ s = y at *
 have hy2:y % 2 < 2:=Nat.mod_lt _ (by decide)
 generalize y % 2 = z at *
 clear K1 KL h m
 go_enter Tryz.func98,Tryz.ntmps98
 go_wp2_with fail
 refine (Uh K1').mono ?_
 rintro e w' ⟨rfl,hw⟩
 obtain rfl:=hw.symm
 go_wp2_with fail
 refine (Uh KL').mono ?_
 rintro e w' ⟨rfl,hw⟩
 obtain rfl:=hw.symm
 go_wp2
 go_ret
 exact ⟨rfl,rfl⟩
end Go.Proofs.YtmnlhnmlgncedaaGreatDoor
