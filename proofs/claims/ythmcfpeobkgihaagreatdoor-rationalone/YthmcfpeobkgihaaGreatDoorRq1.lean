/- Wjc -/
import Derived.Test.YthmcfpeobkgihaaGreatDoorWij
import Derived.Test.YthmcfpeobkgihaaGreatDoorPw2
import Derived.Test.YthmcfpeobkgihaaGreatDoorWrm
import Derived.Test.YthmcfpeobkgihaaGreatDoorWr9
import Derived.Test.YthmcfpeobkgihaaGreatDoorBase
import Derived.OrdersHeld
namespace Go.Proofs.YthmcfpeobkgihaaGreatDoor
open Go.RowKit Go.Deep
set_option linter.unusedVariables false
def pwF (g:Bool) (X Y:List Nat) (k:Nat):(Bool × List Nat × List Nat) × Int:=if bigN (val X ^ k) || bigN (val Y ^ k) then ((false,[],[]),2) else ((((g && decide (k % 2 = 1)) && decide (val X ^ k ≠ 0)),limbs (val X ^ k),limbs (val Y ^ k)),0)
def PowF (g:Bool) (x y:List Nat) (k:Int):(Bool × List Nat × List Nat) × Int:=if MayR g x y then (if k < -1024 ∨ 1024 < k then ((false,[],[]),1) else if k < 0 then (if x = [] then ((false,[],[]),3) else pwF g y x (-k).toNat) else pwF g x y k.toNat) else ((false,[],[]),40)
theorem powL_fit {X:List Nat} {k:Nat} (m:MayL X = true) (hk:k ≤ 1024):powL X (k:Int) = fitL (val X ^ k):=by
 unfold powL
 rw [if_pos m,if_neg (by omega),Int.toNat_natCast]
theorem Tok.len_pos {v:Nat} {m:Nat} (h:(limbs v).length = m):decide (0 < m) = decide (v ≠ 0):=by
 by_cases e:v = 0
 ·have hl:limbs v = []:=by
   have:=limbs_val (xs:=[]) (by intro x hx; cases hx) (by simp [Norm])
   rw [e]; simpa [val] using this
  rw [hl] at h
  simp at h
  simp [e,← h]
 ·have:limbs v ≠ []:=limbs_ne (by omega)
  have h2:=List.length_pos_iff.2 this
  rw [decide_eq_true (by omega),decide_eq_true e]

set_option maxHeartbeats 8000000 in
set_option maxRecDepth 100000 in
theorem ratpow_bad (g:Bool) (a b:Option Addr) (n c m d:Nat) (x y:List Nat) (k:Int) (w:World) (hx:Sl w a n c x) (hy:Sl w b m d y) (ox:Ok x) (oy:Ok y) (hT:Tab64 w) (hm:MayR g x y = false) :
  Calls Tryz.prog 17 #[ratV g a n c b m d,.int .i64 k] w fun e w' => ResR w w' false [] [] 40 e:=by
 have bx:=Box.made w g a n c b m d
 obtain ⟨wa,hwa⟩:∃ wa,ratBox w g a n c b m d = wa:=⟨_,rfl⟩
 rw [hwa] at bx
 obtain ⟨wb,hwb⟩:∃ wb,wa.alloc (.cells #[.bool false,.slice none 0 0,.slice none 0 0] 25) = wb:=⟨_,rfl⟩
 have hba:Below w.heap.size w wa:=by rw [← hwa]; exact bAl
 have hbb:Below wa.heap.size wa wb:=by rw [← hwb]; exact bAl
 have hO:Out wb wa.heap.size:=by rw [← hwb]; exact Out.made wa
 have hoR:Out wb w.heap.size:=by
  have h0:=bx.keep hbb
  unfold ratBox at hwa
  refine ⟨fun i hi => ?_,fun i hi => ?_,h0.lt⟩
  ·match i,hi with
   | 0,_ => exact ⟨_,h0.d0⟩
   | 1,_ => exact ⟨_,h0.d1⟩
   | 2,_ => exact ⟨_,h0.d2⟩
  ·match i,hi with
   | 0,_ => rw [← hwb,← hwa]; simp
   | 1,_ => rw [← hwb,← hwa]; simp
   | 2,_ => rw [← hwb,← hwa]; simp
 have hX:=bx.keep hbb
 have hB:=hba.trans (hbb.mono hba.size)
 have hlt:=bx.lt
 have d0:=hX.d0
 have d1:=hX.d1
 have d2:=hX.d2
 unfold ratBox at hwa
 have KM:=ratMay_any g a b n c m d x y wb (hx.below hB) (hy.below hB) ox oy (hT.below hB)
 rw [hm] at KM
 have HKM:=Hd KM
 have HX:=Hd (And.intro hX (And.intro hO (And.intro hoR hB)))
 have HS:=Hd (And.intro hx hy)
 have HLn:=Hd hx.len
 unfold ratV at HKM ⊢
 clear bx hX hO hoR hB hba hbb KM hx hy hT
 go_enter Tryz.func17,Tryz.ntmps17
 go_wp2_with fail
 refine (Uh HKM).mono ?_
 rintro _ wl ⟨rfl,b1⟩
 have HY:=Hd (And.intro ((Uh HX).1.keep b1) (And.intro ((Uh HX).2.1.keep b1) (And.intro ((Uh HX).2.2.1.keep b1) ((Uh HX).2.2.2.trans (b1.mono (Uh HX).2.2.2.size)))))
 clear b1 HKM HX d0 d1 d2
 have hO1:=(Uh HY).2.1
 obtain ⟨x0,q0⟩:=hO1.cells 0 (by decide)
 obtain ⟨x1,q1⟩:=hO1.cells 1 (by decide)
 obtain ⟨x2,q2⟩:=hO1.cells 2 (by decide)
 have r0:=hO1.fz 0 (by decide)
 have r1:=hO1.fz 1 (by decide)
 have r2:=hO1.fz 2 (by decide)
 have H4:=Hd (three_set wl wa.heap.size (.bool false) (.slice none 0 0) (.slice none 0 0) hO1.cells)
 have HB:=Hd (Uh HY).2.2.2
 clear hO1
 go_wp2_with fail
 obtain ⟨p0,p1,p2,c4⟩:=Uh H4
 generalize ((wl.setCell ⟨wa.heap.size,0,none⟩ (.bool false)).setCell ⟨wa.heap.size,1,none⟩ (.slice none 0 0)).setCell ⟨wa.heap.size,2,none⟩ (.slice none 0 0) = wf at *
 refine bodyPost_ret (by simp [results,Tryz.results17,go_sem,p0,p1,p2]; try rfl) rfl ?_
 exact ⟨_,rfl,none,0,0,none,0,0,rfl,sl_nil _,sl_nil _,newAt_nil _,newAt_nil _,(Uh HB).trans (c4.below (Uh HB).size (fun k hk => by omega))⟩

set_option maxHeartbeats 8000000 in
set_option maxRecDepth 100000 in
theorem ratpow_arg (g:Bool) (a b:Option Addr) (n c m d:Nat) (x y:List Nat) (k:Int) (w:World) (hx:Sl w a n c x) (hy:Sl w b m d y) (ox:Ok x) (oy:Ok y) (hT:Tab64 w) (hm:MayR g x y = true) (hk:k < -1024 ∨ 1024 < k) :
  Calls Tryz.prog 17 #[ratV g a n c b m d,.int .i64 k] w fun e w' => ResR w w' false [] [] 1 e:=by
 have bx:=Box.made w g a n c b m d
 obtain ⟨wa,hwa⟩:∃ wa,ratBox w g a n c b m d = wa:=⟨_,rfl⟩
 rw [hwa] at bx
 obtain ⟨wb,hwb⟩:∃ wb,wa.alloc (.cells #[.bool false,.slice none 0 0,.slice none 0 0] 25) = wb:=⟨_,rfl⟩
 have hba:Below w.heap.size w wa:=by rw [← hwa]; exact bAl
 have hbb:Below wa.heap.size wa wb:=by rw [← hwb]; exact bAl
 have hO:Out wb wa.heap.size:=by rw [← hwb]; exact Out.made wa
 have hoR:Out wb w.heap.size:=by
  have h0:=bx.keep hbb
  unfold ratBox at hwa
  refine ⟨fun i hi => ?_,fun i hi => ?_,h0.lt⟩
  ·match i,hi with
   | 0,_ => exact ⟨_,h0.d0⟩
   | 1,_ => exact ⟨_,h0.d1⟩
   | 2,_ => exact ⟨_,h0.d2⟩
  ·match i,hi with
   | 0,_ => rw [← hwb,← hwa]; simp
   | 1,_ => rw [← hwb,← hwa]; simp
   | 2,_ => rw [← hwb,← hwa]; simp
 have hX:=bx.keep hbb
 have hB:=hba.trans (hbb.mono hba.size)
 have hlt:=bx.lt
 have d0:=hX.d0
 have d1:=hX.d1
 have d2:=hX.d2
 unfold ratBox at hwa
 have KM:=ratMay_any g a b n c m d x y wb (hx.below hB) (hy.below hB) ox oy (hT.below hB)
 rw [hm] at KM
 have HKM:=Hd KM
 have HX:=Hd (And.intro hX (And.intro hO (And.intro hoR hB)))
 have HS:=Hd (And.intro hx hy)
 have HLn:=Hd hx.len
 unfold ratV at HKM ⊢
 clear bx hX hO hoR hB hba hbb KM hx hy hT
 rcases hk with hk | hk
 focus
  have hk2:k < -1024:=hk
 rotate_left
 focus
  have hk2:¬ k < -1024:=by omega
 all_goals
  go_enter Tryz.func17,Tryz.ntmps17
  go_wp2_with fail
  refine (Uh HKM).mono ?_
  rintro _ wl ⟨rfl,b1⟩
  have HY:=Hd (And.intro ((Uh HX).1.keep b1) (And.intro ((Uh HX).2.1.keep b1) (And.intro ((Uh HX).2.2.1.keep b1) ((Uh HX).2.2.2.trans (b1.mono (Uh HX).2.2.2.size)))))
  clear b1 HKM HX d0 d1 d2
  have hO1:=(Uh HY).2.1
  obtain ⟨x0,q0⟩:=hO1.cells 0 (by decide)
  obtain ⟨x1,q1⟩:=hO1.cells 1 (by decide)
  obtain ⟨x2,q2⟩:=hO1.cells 2 (by decide)
  have r0:=hO1.fz 0 (by decide)
  have r1:=hO1.fz 1 (by decide)
  have r2:=hO1.fz 2 (by decide)
  have H4:=Hd (three_set wl wa.heap.size (.bool false) (.slice none 0 0) (.slice none 0 0) hO1.cells)
  have HB:=Hd (Uh HY).2.2.2
  clear hO1
  go_wp2_with fail
  obtain ⟨p0,p1,p2,c4⟩:=Uh H4
  generalize ((wl.setCell ⟨wa.heap.size,0,none⟩ (.bool false)).setCell ⟨wa.heap.size,1,none⟩ (.slice none 0 0)).setCell ⟨wa.heap.size,2,none⟩ (.slice none 0 0) = wf at *
  refine bodyPost_ret (by simp [results,Tryz.results17,go_sem,p0,p1,p2]; try rfl) rfl ?_
  exact ⟨_,rfl,none,0,0,none,0,0,rfl,sl_nil _,sl_nil _,newAt_nil _,newAt_nil _,(Uh HB).trans (c4.below (Uh HB).size (fun k hk => by omega))⟩

set_option maxHeartbeats 8000000 in
set_option maxRecDepth 100000 in
theorem ratpow_zero (g:Bool) (a b:Option Addr) (n c m d:Nat) (x y:List Nat) (k:Int) (w:World) (hx:Sl w a n c x) (hy:Sl w b m d y) (ox:Ok x) (oy:Ok y) (hT:Tab64 w) (hm:MayR g x y = true) (hk1:-1024 ≤ k) (hk2:k < 0) (hz:n = 0) :
  Calls Tryz.prog 17 #[ratV g a n c b m d,.int .i64 k] w fun e w' => ResR w w' false [] [] 3 e:=by
 have bx:=Box.made w g a n c b m d
 obtain ⟨wa,hwa⟩:∃ wa,ratBox w g a n c b m d = wa:=⟨_,rfl⟩
 rw [hwa] at bx
 obtain ⟨wb,hwb⟩:∃ wb,wa.alloc (.cells #[.bool false,.slice none 0 0,.slice none 0 0] 25) = wb:=⟨_,rfl⟩
 have hba:Below w.heap.size w wa:=by rw [← hwa]; exact bAl
 have hbb:Below wa.heap.size wa wb:=by rw [← hwb]; exact bAl
 have hO:Out wb wa.heap.size:=by rw [← hwb]; exact Out.made wa
 have hoR:Out wb w.heap.size:=by
  have h0:=bx.keep hbb
  unfold ratBox at hwa
  refine ⟨fun i hi => ?_,fun i hi => ?_,h0.lt⟩
  ·match i,hi with
   | 0,_ => exact ⟨_,h0.d0⟩
   | 1,_ => exact ⟨_,h0.d1⟩
   | 2,_ => exact ⟨_,h0.d2⟩
  ·match i,hi with
   | 0,_ => rw [← hwb,← hwa]; simp
   | 1,_ => rw [← hwb,← hwa]; simp
   | 2,_ => rw [← hwb,← hwa]; simp
 have hX:=bx.keep hbb
 have hB:=hba.trans (hbb.mono hba.size)
 have hlt:=bx.lt
 have d0:=hX.d0
 have d1:=hX.d1
 have d2:=hX.d2
 unfold ratBox at hwa
 have KM:=ratMay_any g a b n c m d x y wb (hx.below hB) (hy.below hB) ox oy (hT.below hB)
 rw [hm] at KM
 have HKM:=Hd KM
 have HX:=Hd (And.intro hX (And.intro hO (And.intro hoR hB)))
 have HS:=Hd (And.intro hx hy)
 have HLn:=Hd hx.len
 unfold ratV at HKM ⊢
 clear bx hX hO hoR hB hba hbb KM hx hy hT
 have u1:¬ k < -1024:=by omega
 have u2:¬ 1024 < k:=by omega
 have HZ:=Hd hz
 clear hz
 go_enter Tryz.func17,Tryz.ntmps17
 go_wp2_with fail
 refine (Uh HKM).mono ?_
 rintro _ wl ⟨rfl,b1⟩
 have HY:=Hd (And.intro ((Uh HX).1.keep b1) (And.intro ((Uh HX).2.1.keep b1) (And.intro ((Uh HX).2.2.1.keep b1) ((Uh HX).2.2.2.trans (b1.mono (Uh HX).2.2.2.size)))))
 clear b1 HKM HX d0 d1 d2
 have z:=(Uh HY).1
 have e0:=z.d0
 have e1:=z.d1
 have e2:=z.d2
 have KZ:=isZero_any g a b n c m d wl
 rw [decide_eq_true (Uh HZ)] at KZ
 have HKZ:=Hd KZ
 unfold ratV at HKZ
 clear z KZ
 go_wp2_with fail
 refine (Uh HKZ).mono ?_
 rintro _ wl2 ⟨rfl,b2⟩
 have HY2:=Hd (And.intro ((Uh HY).1.keep b2) (And.intro ((Uh HY).2.1.keep b2) (And.intro ((Uh HY).2.2.1.keep b2) ((Uh HY).2.2.2.trans (b2.mono (Uh HY).2.2.2.size)))))
 clear b2 HKZ HY e0 e1 e2
 have hO1:=(Uh HY2).2.1
 obtain ⟨x0,q0⟩:=hO1.cells 0 (by decide)
 obtain ⟨x1,q1⟩:=hO1.cells 1 (by decide)
 obtain ⟨x2,q2⟩:=hO1.cells 2 (by decide)
 have r0:=hO1.fz 0 (by decide)
 have r1:=hO1.fz 1 (by decide)
 have r2:=hO1.fz 2 (by decide)
 have H4:=Hd (three_set wl2 wa.heap.size (.bool false) (.slice none 0 0) (.slice none 0 0) hO1.cells)
 have HB:=Hd (Uh HY2).2.2.2
 clear hO1
 go_wp2_with fail
 obtain ⟨p0,p1,p2,c4⟩:=Uh H4
 generalize ((wl2.setCell ⟨wa.heap.size,0,none⟩ (.bool false)).setCell ⟨wa.heap.size,1,none⟩ (.slice none 0 0)).setCell ⟨wa.heap.size,2,none⟩ (.slice none 0 0) = wf at *
 refine bodyPost_ret (by simp [results,Tryz.results17,go_sem,p0,p1,p2]; try rfl) rfl ?_
 exact ⟨_,rfl,none,0,0,none,0,0,rfl,sl_nil _,sl_nil _,newAt_nil _,newAt_nil _,(Uh HB).trans (c4.below (Uh HB).size (fun k hk => by omega))⟩

set_option maxHeartbeats 8000000 in
set_option maxRecDepth 100000 in
theorem ratpow_pos (g:Bool) (a b:Option Addr) (n c m d:Nat) (x y:List Nat) (kk:Nat) (w:World) (hx:Sl w a n c x) (hy:Sl w b m d y) (ox:Ok x) (oy:Ok y) (hT:Tab64 w) (hm:MayR g x y = true) (hkk:kk ≤ 1024) :
  Calls Tryz.prog 17 #[ratV g a n c b m d,.int .i64 (kk:Int)] w fun e w' => ResR w w' (pwF g x y kk).1.1 (pwF g x y kk).1.2.1 (pwF g x y kk).1.2.2 (pwF g x y kk).2 e:=by
 have HMM:=Hd (And.intro (MayR.parts hm).1 (MayR.parts hm).2.1)
 obtain ⟨N,hN⟩:∃ N,val x ^ kk = N:=⟨_,rfl⟩
 obtain ⟨M,hM⟩:∃ M,val y ^ kk = M:=⟨_,rfl⟩
 obtain ⟨SB,hSB⟩:∃ SB,(g && decide (kk % 2 = 1)) = SB:=⟨_,rfl⟩
 unfold pwF
 rw [hN,hM,hSB]
 obtain ⟨RR,hRR⟩:∃ r,(if bigN N || bigN M then (((false,[],[]),2):(Bool × List Nat × List Nat) × Int) else ((SB && decide (N ≠ 0),limbs N,limbs M),0)) = r:=⟨_,rfl⟩
 rw [hRR]
 have HRR:=Hd hRR
 clear hRR
 have HNM:=Hd (And.intro hN hM)
 have HPAR:=Hd (show (g = false ∧ SB = false) ∨ (g = true ∧ kk % 2 = 1 ∧ SB = true) ∨ (g = true ∧ kk % 2 = 0 ∧ SB = false) by
  cases g
  ·exact .inl ⟨rfl,by rw [← hSB]; rfl⟩
  ·rcases (show kk % 2 = 1 ∨ kk % 2 = 0 by omega) with h | h
   ·exact .inr (.inl ⟨rfl,h,by rw [← hSB]; simp [h]⟩)
   ·exact .inr (.inr ⟨rfl,h,by rw [← hSB]; simp [h]⟩))
 clear hN hM hSB
 have bx:=Box.made w g a n c b m d
 obtain ⟨wa,hwa⟩:∃ wa,ratBox w g a n c b m d = wa:=⟨_,rfl⟩
 rw [hwa] at bx
 obtain ⟨wb,hwb⟩:∃ wb,wa.alloc (.cells #[.bool false,.slice none 0 0,.slice none 0 0] 25) = wb:=⟨_,rfl⟩
 have hba:Below w.heap.size w wa:=by rw [← hwa]; exact bAl
 have hbb:Below wa.heap.size wa wb:=by rw [← hwb]; exact bAl
 have hO:Out wb wa.heap.size:=by rw [← hwb]; exact Out.made wa
 have hoR:Out wb w.heap.size:=by
  have h0:=bx.keep hbb
  unfold ratBox at hwa
  refine ⟨fun i hi => ?_,fun i hi => ?_,h0.lt⟩
  ·match i,hi with
   | 0,_ => exact ⟨_,h0.d0⟩
   | 1,_ => exact ⟨_,h0.d1⟩
   | 2,_ => exact ⟨_,h0.d2⟩
  ·match i,hi with
   | 0,_ => rw [← hwb,← hwa]; simp
   | 1,_ => rw [← hwb,← hwa]; simp
   | 2,_ => rw [← hwb,← hwa]; simp
 have hX:=bx.keep hbb
 have hB:=hba.trans (hbb.mono hba.size)
 have hlt:=bx.lt
 have d0:=hX.d0
 have d1:=hX.d1
 have d2:=hX.d2
 unfold ratBox at hwa
 have KM:=ratMay_any g a b n c m d x y wb (hx.below hB) (hy.below hB) ox oy (hT.below hB)
 rw [hm] at KM
 have HKM:=Hd KM
 have HX:=Hd (And.intro hX (And.intro hO (And.intro hoR hB)))
 have HS:=Hd (And.intro hx hy)
 have HLn:=Hd hx.len
 unfold ratV at HKM ⊢
 clear bx hX hO hoR hB hba hbb KM hx hy hT
 have u1:¬ (kk:Int) < -1024:=by omega
 have u2:¬ 1024 < (kk:Int):=by omega
 have u3:¬ (kk:Int) < 0:=by omega
 go_enter Tryz.func17,Tryz.ntmps17
 go_wp2_with fail
 refine (Uh HKM).mono ?_
 rintro _ wl ⟨rfl,b1⟩
 have HY:=Hd (And.intro ((Uh HX).1.keep b1) (And.intro ((Uh HX).2.1.keep b1) (And.intro ((Uh HX).2.2.1.keep b1) ((Uh HX).2.2.2.trans (b1.mono (Uh HX).2.2.2.size)))))
 clear b1 HKM HX d0 d1 d2
 have HSL:=Hd (And.intro ((Uh HS).1.below (Uh HY).2.2.2) ((Uh HS).2.below (Uh HY).2.2.2))
 have e0:=(Uh HY).1.d0
 have e1:=(Uh HY).1.d1
 have e2:=(Uh HY).1.d2
 have mX:=(Uh HMM).1
 have mY:=(Uh HMM).2
 have z:=(Uh HY).1
 have KN:=npow_any a n c x (kk:Int) wl (Uh HSL).1 ox
 rw [powL_fit mX hkk,(Uh HNM).1] at KN
 have HKN:=Hd KN
 clear KN z
 go_wp2_with fail
 refine (Uh HKN).mono ?_
 rintro _ w1 ⟨aq,mq,cq,rfl,sq,nq,bq⟩
 have KM:=npow_any b m d y (kk:Int) w1 ((Uh HSL).2.below bq) oy
 rw [powL_fit mY hkk,(Uh HNM).2] at KM
 have HKM2:=Hd KM
 have q0:=(ck bq e0)
 have q2:=(ck bq e2)
 have HQ:=Hd (And.intro sq (And.intro nq bq))
 clear KM sq nq bq HKN
 go_wp2_with fail
 refine (Uh HKM2).mono ?_
 rintro _ w2 ⟨az,mz,cz,rfl,sz,nz,bz⟩
 have t0:=(ck bz q0)
 have hb2:=(Uh HQ).2.2.trans (bz.mono (Uh HQ).2.2.size)
 have hlo:=(Uh HY).2.1.lt
 have HNE:=Hd (And.intro (fun x hx => by have h1:=(Uh HQ).2.1 x hx; omega:∀ x,aq = some x → x.block ≠ wa.heap.size) (fun x hx => by have h1:=nz x hx; have h2:=(Uh HQ).2.2.size; omega:∀ x,az = some x → x.block ≠ wa.heap.size))
 have HP:=Hd (And.intro ((Uh HQ).1.below bz) (And.intro sz (And.intro (fun x hx => by have h1:=(Uh HQ).2.1 x hx; have h2:=(Uh HY).2.2.2.size; omega:NewAt w.heap.size aq) (And.intro (fun x hx => by have h1:=nz x hx; have h2:=(Uh HQ).2.2.size; have h3:=(Uh HY).2.2.2.size; omega:NewAt w.heap.size az) (And.intro ((Uh HY).2.2.2.trans (hb2.mono (Uh HY).2.2.2.size)) ((Uh HY).2.1.keep hb2))))))
 clear HQ sz nz bz hb2 hlo HKM2 HY HSL e0 e1 e2 q0 q2 mX mY HNM
 cases hbN:bigN N
 ·cases hbM:bigN M
  ·have eN:fitL N = (limbs N,0):=fitL_ok (by unfold bigN at hbN; simpa using hbN)
   have eM:fitL M = (limbs M,0):=fitL_ok (by unfold bigN at hbM; simpa using hbM)
   rw [eN,eM] at HP
   rw [eN,eM]
   dsimp only at HP ⊢
   have K:=answer_any SB aq az mq cq mz cz 0 w2
   unfold AnPost at K
   rw [if_pos rfl] at K
   unfold ratV at K
   obtain ⟨SG,hSG⟩:∃ SG,(SB && decide (0 < mq)) = SG:=⟨_,rfl⟩
   rw [hSG] at K
   have HSG:=Hd hSG
   have HK:=Hd K
   have HBB:=Hd (And.intro hbN hbM)
   clear K eN eM hbN hbM hSG
   rcases Uh HPAR with ⟨hg,hs⟩ | ⟨hg,hk2,hs⟩ | ⟨hg,hk2,hs⟩
   all_goals
    subst hg
    subst hs
    try (have k1:(kk:Int) % 2 = 1:=by omega)
    try (have k1:(kk:Int) % 2 = 0:=by omega)
    go_wp2_with fail
    refine (Uh HK).mono ?_
    rintro _ wy ⟨rfl,hby⟩
    have hO3:=(Uh HP).2.2.2.2.2.keep hby
    obtain ⟨i0,o0⟩:=hO3.cells 0 (by decide)
    obtain ⟨i1,o1⟩:=hO3.cells 1 (by decide)
    obtain ⟨i2,o2⟩:=hO3.cells 2 (by decide)
    have r0:=hO3.fz 0 (by decide)
    have r1:=hO3.fz 1 (by decide)
    have r2:=hO3.fz 2 (by decide)
    have H4:=Hd (three_set wy wa.heap.size (.bool SG) (.slice aq mq cq) (.slice az mz cz) hO3.cells)
    have HBy:=Hd hby
    clear hO3 hby HK
    go_wp2_with fail
    obtain ⟨t0,t1,t2,c4⟩:=Uh H4
    generalize ((wy.setCell ⟨wa.heap.size,0,none⟩ (.bool SG)).setCell ⟨wa.heap.size,1,none⟩ (.slice aq mq cq)).setCell ⟨wa.heap.size,2,none⟩ (.slice az mz cz) = wk at *
    refine bodyPost_ret (by simp [results,Tryz.results17,go_sem,t0,t1,t2]; try rfl) rfl ?_
    have hRr:=Uh HRR
    rw [(Uh HBB).1,(Uh HBB).2] at hRr
    rw [← hRr]
    have hBy:Below w.heap.size w wy:=(Uh HP).2.2.2.2.1.trans ((Uh HBy).mono (Uh HP).2.2.2.2.1.size)
    have hln:=(Uh HP).1.len
    refine ⟨_,rfl,aq,mq,cq,az,mz,cz,?_,((Uh HP).1.below (Uh HBy)).chg c4 (fun x hx _ => (Uh HNE).1 x hx),((Uh HP).2.1.below (Uh HBy)).chg c4 (fun x hx _ => (Uh HNE).2 x hx),(Uh HP).2.2.1,(Uh HP).2.2.2.1,hBy.trans (c4.below hBy.size (fun k hk => by omega))⟩
    unfold ratV
    rw [← Uh HSG,Tok.len_pos hln]
    rfl
  ·have eN:fitL N = (limbs N,0):=fitL_ok (by unfold bigN at hbN; simpa using hbN)
   have eM:fitL M = ([],2):=fitL_big (by unfold bigN at hbM; simpa using hbM)
   rw [eN,eM] at HP
   rw [eN,eM]
   dsimp only at HP ⊢
   have K:=answer_any SB aq az mq cq mz cz 2 w2
   unfold AnPost at K
   rw [if_neg (by decide)] at K
   unfold ratV at K
   have HK:=Hd K
   have HBB:=Hd (And.intro hbN hbM)
   clear K eN eM hbN hbM
   rcases Uh HPAR with ⟨hg,hs⟩ | ⟨hg,hk2,hs⟩ | ⟨hg,hk2,hs⟩
   all_goals
    subst hg
    subst hs
    try (have k1:(kk:Int) % 2 = 1:=by omega)
    try (have k1:(kk:Int) % 2 = 0:=by omega)
    go_wp2_with fail
    refine (Uh HK).mono ?_
    rintro _ wy ⟨rfl,hby⟩
    have hO3:=(Uh HP).2.2.2.2.2.keep hby
    obtain ⟨i0,o0⟩:=hO3.cells 0 (by decide)
    obtain ⟨i1,o1⟩:=hO3.cells 1 (by decide)
    obtain ⟨i2,o2⟩:=hO3.cells 2 (by decide)
    have r0:=hO3.fz 0 (by decide)
    have r1:=hO3.fz 1 (by decide)
    have r2:=hO3.fz 2 (by decide)
    have H4:=Hd (three_set wy wa.heap.size (.bool false) (.slice none 0 0) (.slice none 0 0) hO3.cells)
    have HBy:=Hd hby
    clear hO3 hby HK
    go_wp2_with fail
    obtain ⟨t0,t1,t2,c4⟩:=Uh H4
    generalize ((wy.setCell ⟨wa.heap.size,0,none⟩ (.bool false)).setCell ⟨wa.heap.size,1,none⟩ (.slice none 0 0)).setCell ⟨wa.heap.size,2,none⟩ (.slice none 0 0) = wk at *
    refine bodyPost_ret (by simp [results,Tryz.results17,go_sem,t0,t1,t2]; try rfl) rfl ?_
    rw [show RR = ((false,[],[]),2) from by rw [← Uh HRR,(Uh HBB).1,(Uh HBB).2]; rfl]
    have hBy:Below w.heap.size w wy:=(Uh HP).2.2.2.2.1.trans ((Uh HBy).mono (Uh HP).2.2.2.2.1.size)
    exact ⟨_,rfl,none,0,0,none,0,0,rfl,sl_nil _,sl_nil _,newAt_nil _,newAt_nil _,hBy.trans (c4.below hBy.size (fun k hk => by omega))⟩
 ·cases hbM:bigN M
  ·have eN:fitL N = ([],2):=fitL_big (by unfold bigN at hbN; simpa using hbN)
   have eM:fitL M = (limbs M,0):=fitL_ok (by unfold bigN at hbM; simpa using hbM)
   rw [eN,eM] at HP
   rw [eN,eM]
   dsimp only at HP ⊢
   have K:=answer_any SB aq az mq cq mz cz 2 w2
   unfold AnPost at K
   rw [if_neg (by decide)] at K
   unfold ratV at K
   have HK:=Hd K
   have HBB:=Hd (And.intro hbN hbM)
   clear K eN eM hbN hbM
   rcases Uh HPAR with ⟨hg,hs⟩ | ⟨hg,hk2,hs⟩ | ⟨hg,hk2,hs⟩
   all_goals
    subst hg
    subst hs
    try (have k1:(kk:Int) % 2 = 1:=by omega)
    try (have k1:(kk:Int) % 2 = 0:=by omega)
    go_wp2_with fail
    refine (Uh HK).mono ?_
    rintro _ wy ⟨rfl,hby⟩
    have hO3:=(Uh HP).2.2.2.2.2.keep hby
    obtain ⟨i0,o0⟩:=hO3.cells 0 (by decide)
    obtain ⟨i1,o1⟩:=hO3.cells 1 (by decide)
    obtain ⟨i2,o2⟩:=hO3.cells 2 (by decide)
    have r0:=hO3.fz 0 (by decide)
    have r1:=hO3.fz 1 (by decide)
    have r2:=hO3.fz 2 (by decide)
    have H4:=Hd (three_set wy wa.heap.size (.bool false) (.slice none 0 0) (.slice none 0 0) hO3.cells)
    have HBy:=Hd hby
    clear hO3 hby HK
    go_wp2_with fail
    obtain ⟨t0,t1,t2,c4⟩:=Uh H4
    generalize ((wy.setCell ⟨wa.heap.size,0,none⟩ (.bool false)).setCell ⟨wa.heap.size,1,none⟩ (.slice none 0 0)).setCell ⟨wa.heap.size,2,none⟩ (.slice none 0 0) = wk at *
    refine bodyPost_ret (by simp [results,Tryz.results17,go_sem,t0,t1,t2]; try rfl) rfl ?_
    rw [show RR = ((false,[],[]),2) from by rw [← Uh HRR,(Uh HBB).1,(Uh HBB).2]; rfl]
    have hBy:Below w.heap.size w wy:=(Uh HP).2.2.2.2.1.trans ((Uh HBy).mono (Uh HP).2.2.2.2.1.size)
    exact ⟨_,rfl,none,0,0,none,0,0,rfl,sl_nil _,sl_nil _,newAt_nil _,newAt_nil _,hBy.trans (c4.below hBy.size (fun k hk => by omega))⟩
  ·have eN:fitL N = ([],2):=fitL_big (by unfold bigN at hbN; simpa using hbN)
   have eM:fitL M = ([],2):=fitL_big (by unfold bigN at hbM; simpa using hbM)
   rw [eN,eM] at HP
   rw [eN,eM]
   dsimp only at HP ⊢
   have K:=answer_any SB aq az mq cq mz cz 2 w2
   unfold AnPost at K
   rw [if_neg (by decide)] at K
   unfold ratV at K
   have HK:=Hd K
   have HBB:=Hd (And.intro hbN hbM)
   clear K eN eM hbN hbM
   rcases Uh HPAR with ⟨hg,hs⟩ | ⟨hg,hk2,hs⟩ | ⟨hg,hk2,hs⟩
   all_goals
    subst hg
    subst hs
    try (have k1:(kk:Int) % 2 = 1:=by omega)
    try (have k1:(kk:Int) % 2 = 0:=by omega)
    go_wp2_with fail
    refine (Uh HK).mono ?_
    rintro _ wy ⟨rfl,hby⟩
    have hO3:=(Uh HP).2.2.2.2.2.keep hby
    obtain ⟨i0,o0⟩:=hO3.cells 0 (by decide)
    obtain ⟨i1,o1⟩:=hO3.cells 1 (by decide)
    obtain ⟨i2,o2⟩:=hO3.cells 2 (by decide)
    have r0:=hO3.fz 0 (by decide)
    have r1:=hO3.fz 1 (by decide)
    have r2:=hO3.fz 2 (by decide)
    have H4:=Hd (three_set wy wa.heap.size (.bool false) (.slice none 0 0) (.slice none 0 0) hO3.cells)
    have HBy:=Hd hby
    clear hO3 hby HK
    go_wp2_with fail
    obtain ⟨t0,t1,t2,c4⟩:=Uh H4
    generalize ((wy.setCell ⟨wa.heap.size,0,none⟩ (.bool false)).setCell ⟨wa.heap.size,1,none⟩ (.slice none 0 0)).setCell ⟨wa.heap.size,2,none⟩ (.slice none 0 0) = wk at *
    refine bodyPost_ret (by simp [results,Tryz.results17,go_sem,t0,t1,t2]; try rfl) rfl ?_
    rw [show RR = ((false,[],[]),2) from by rw [← Uh HRR,(Uh HBB).1,(Uh HBB).2]; rfl]
    have hBy:Below w.heap.size w wy:=(Uh HP).2.2.2.2.1.trans ((Uh HBy).mono (Uh HP).2.2.2.2.1.size)
    exact ⟨_,rfl,none,0,0,none,0,0,rfl,sl_nil _,sl_nil _,newAt_nil _,newAt_nil _,hBy.trans (c4.below hBy.size (fun k hk => by omega))⟩
theorem big_one:bigN 1 = false:=by unfold bigN; rw [limbs_1]; rfl
theorem big_le {a b:Nat} (h:a ≤ b) (k:bigN a = true):bigN b = true:=by
 unfold bigN at k ⊢
 have:=limbs_mono h
 simp at k ⊢
 omega
theorem big_up {X i k:Nat} (hX:X ≠ 0) (h:i ≤ k) (hb:bigN (X ^ i) = true):bigN (X ^ k) = true:=big_le (Nat.pow_le_pow_right (Nat.pos_of_ne_zero hX) h) hb
theorem big_le48 {v m:Nat} (h:bigN v = false) (hm:(limbs v).length = m):m ≤ 2048:=by
 unfold bigN at h
 simp at h
 omega
theorem pw_zero {g:Bool} {x y:List Nat} {k:Nat} (h0:val x = 0) (h1:val y = 1) (hk:0 < k):pwF g x y k = ((false,[],[1]),0):=by
 unfold pwF
 rw [h0,h1,Nat.zero_pow hk,Nat.one_pow,limbs_1,big_one]
 simp [limbs_zero,bigN]
theorem pw_big {g : Bool} {x y : List Nat} {i k : Nat} (h0 : val x ≠ 0) (h1 : val y ≠ 0) (hk : i ≤ k) (hb : bigN (val x ^ i) = true ∨ bigN (val y ^ i) = true) : pwF g x y k = ((false, [], []), 2) := by
  unfold pwF
  rw [if_pos (by rcases hb with h | h
                 · rw [big_up h0 hk h]; rfl
                 · rw [big_up h1 hk h, Bool.or_true])]
theorem pw_done {g:Bool} {x y:List Nat} {k:Nat} (b1:bigN (val x ^ k) = false) (b2:bigN (val y ^ k) = false) (h:val x ^ k ≠ 0):pwF g x y k = ((g && decide (k % 2 = 1),limbs (val x ^ k),limbs (val y ^ k)),0):=by
 unfold pwF
 rw [b1,b2,decide_eq_true h,Bool.and_true]
 rfl
structure PwX (wr w3:World) (RX:Nat) (g:Bool) (X Y j:Nat) (aN:Option Addr) (mN cN:Nat) (aD:Option Addr) (mD cD:Nat):Prop where
 tx:Tri wr RX (.bool (g && decide (j % 2 = 1))) (.slice aN mN cN) (.slice aD mD cD)
 sN:Sl wr aN mN cN (limbs (X ^ j))
 sD:Sl wr aD mD cD (limbs (Y ^ j))
 nN:NewAt w3.heap.size aN
 nD:NewAt w3.heap.size aD
 bN:bigN (X ^ j) = false
 bD:bigN (Y ^ j) = false
 nz:X ^ j ≠ 0
 bel:Below w3.heap.size w3 wr
 rx:w3.heap.size ≤ RX
theorem par_step (g:Bool) (j:Nat):((g && decide (j % 2 = 1)) != g) = (g && decide ((j + 1) % 2 = 1)):=by
 cases g
 ·rfl
 ·rcases (show j % 2 = 1 ∨ j % 2 = 0 by omega) with h | h
  ·have h2:(j + 1) % 2 = 0:=by omega
   simp [h,h2]
  ·have h2:(j + 1) % 2 = 1:=by omega
   simp [h,h2]
theorem PwX.step {wr w3 W:World} {RX:Nat} {g:Bool} {X Y j:Nat} {aN:Option Addr} {mN cN:Nat} {aD:Option Addr} {mD cD:Nat} (h:PwX wr w3 RX g X Y j aN mN cN aD mD cD) {a1 a2:Option Addr} {m1 c1 m2 c2:Nat} (hb:Below wr.heap.size wr W)
  (s1:Sl W a1 m1 c1 (limbs (X ^ j * X))) (s2:Sl W a2 m2 c2 (limbs (Y ^ j * Y))) (n1:NewAt wr.heap.size a1) (n2:NewAt wr.heap.size a2) (b1:bigN (X ^ j * X) = false) (b2:bigN (Y ^ j * Y) = false) (z:X ≠ 0) {GK:Bool} (hg:((g && decide (j % 2 = 1)) != g) = GK) :
  PwX (((W.setCell ⟨RX,0,none⟩ (.bool GK)).setCell ⟨RX,1,none⟩ (.slice a1 m1 c1)).setCell ⟨RX,2,none⟩ (.slice a2 m2 c2)) w3 RX g X Y (j + 1) a1 m1 c1 a2 m2 c2:=by
 have hO:=(h.tx.keep hb).out
 have c4:=(three_set W RX (.bool GK) (.slice a1 m1 c1) (.slice a2 m2 c2) hO.cells).2.2.2
 have hlt:=h.tx.lt
 have hB:=h.bel.trans (hb.mono h.bel.size)
 have hsz:=h.bel.size
 refine ⟨?_,?_,?_,fun x hx => Nat.le_trans hsz (n1 x hx),fun x hx => Nat.le_trans hsz (n2 x hx),?_,?_,?_,hB.trans (c4.below hB.size (fun k hk e => by have:=h.rx; omega)),h.rx⟩
 ·rw [← par_step,hg]; exact tri_set hO _ _ _
 ·rw [Nat.pow_succ]; exact s1.chg c4 (fun x hx _ e => by have:=n1 x hx; omega)
 ·rw [Nat.pow_succ]; exact s2.chg c4 (fun x hx _ e => by have:=n2 x hx; omega)
 ·rw [Nat.pow_succ]; exact b1
 ·rw [Nat.pow_succ]; exact b2
 ·rw [Nat.pow_succ]; exact Nat.mul_ne_zero h.nz z
section
variable {P:Program} {ops:Array Oper} {Q:Exit → Act → World → Prop} {md:Region.Mode} {S:World → Prop} {L:Nat}

def anyTill (P:Program) (md:Region.Mode) (ops:Array Oper) (Q:Exit → Act → World → Prop) (S:World → Prop) (L:Nat):Nat → Array Bool → Act → World → Prop
 | 0,l,a,w => Region.ready md ops l = [] ∧ Q .normal a w
 | n + 1,l,a,w => (Region.ready md ops l = [] → Q .normal a w) ∧
   ∀ i ∈ Region.ready md ops l,wpOp P ops Q i (fun a' w' => (i ≠ L → S w') ∧ anyTill P md ops Q S L n (l.setIfInBounds i true) a' w') a w

theorem anyTill_any:∀ (n:Nat) (l:Array Bool) (a:Act) (w:World),anyTill P md ops Q S L n l a w → wpAny P md ops Q n l a w
 | 0,_,_,_,h => h
 | n + 1,_,_,_,h => ⟨h.1,fun i hi => wpOp_mono (fun a' w' k => anyTill_any n _ a' w' k.2) (h.2 i hi)⟩

theorem anyTill_region (S:World → Prop) (L:Nat) {id:Nat} {a:Act} {w:World} (hm:P.follows .mixedOrders = true)
  (h:anyTill P .any ops Q S L ops.size (Array.replicate ops.size false) a w.drew):(Code.region id ops true).wp P Q a w :=
 wp_region_any hm (anyTill_any _ _ _ _ h)

theorem anyTill_first {i:Nat} {oi oL:Oper} {v:Value} (hi:ops[i]? = some oi) (hn:Region.noSelect ops = true)
  (hL:ops[L]? = some oL) (hw:∃ e ∈ oL.after,Region.binds md e = true ∧ e.on = i)
  (hQ:∀ c a w,Q (.panic c) (a.put oi.dst v) w → Q (.panic c) a w) :
  ∀ (n:Nat) (l:Array Bool) (a:Act) (w:World),
   (∀ j oj,ops[j]? = some oj → j ≠ i → l.getD j true = false → (∀ e ∈ oj.after,Region.binds md e = true → e.on ≠ i) → oi.apart ops oj = true) →
   i ∈ Region.ready md ops l → YieldsIf P ops S oi v a → S w →
   anyTill P md ops Q S L n (l.setIfInBounds i true) (a.put oi.dst v) w → anyTill P md ops Q S L (n + 1) l a w:=by
 intro n
 induction n with
 | zero =>
  intro l a w _ hr hy hS H
  refine ⟨fun h => absurd hr (by rw [h]; simp),fun j hj => ?_⟩
  by_cases hji:j = i
  ·subst hji; exact hy.wpOp hi hS ⟨fun _ => hS,H⟩
  ·exact absurd (ready_mono hj hji) (by rw [H.1]; simp)
 | succ n ih =>
  intro l a w hf hr hy hS H
  refine ⟨fun h => absurd hr (by rw [h]; simp),fun j hj => ?_⟩
  by_cases hji:j = i
  ·subst hji; exact hy.wpOp hi hS ⟨fun _ => hS,H⟩
  ·obtain ⟨hju,oj,hoj,hall⟩:=mem_ready.1 hj
   have hno:∀ e ∈ oj.after,Region.binds md e = true → e.on ≠ i:=fun e he hb heq => by
    have k1:=hall e he hb
    have k0:=(mem_ready.1 hr).1
    rw [heq] at k1
    rcases Nat.lt_or_ge i l.size with h' | h'
    ·simp [h'] at k0 k1; rw [k0] at k1; cases k1
    ·simp [Array.getElem?_eq_none h'] at k1
   have hjL:j ≠ L:=fun e => by
    obtain ⟨e1,h1,h2,h3⟩:=hw
    rw [e,hL] at hoj
    cases hoj
    exact hno e1 h1 h2 h3
   have k2:=wpOp_putIf hoj (hf j oj hoj hji hju hno) (fun cs b => Region.noSelect_spec hn i oi cs b hi) (fun cs b => Region.noSelect_spec hn j oj cs b hoj) hQ hy (H.2 j (ready_mono hj hji))
   refine wpOp_mono (fun a' w' k3 => ⟨fun _ => k3.2.1 hjL,ih (l.setIfInBounds j true) a' w' (fun k ok hk hki hun hno' => hf k ok hk hki ?_ hno') (ready_mono hr (Ne.symm hji)) k3.1 (k3.2.1 hjL) ?_⟩) k2
   ·by_cases hjk:j = k
    ·subst hjk; exact hju
    ·rw [getD_set_ne true hjk] at hun; exact hun
   ·rw [Array.setIfInBounds_comm _ _ hji]; exact k3.2.2

theorem anyTill_take {i:Nat} {oi oL:Oper} {v:Value} {n:Nat} {l:Array Bool} {a:Act} {w:World} (hi:ops[i]? = some oi) (hL:ops[L]? = some oL)
  (hn:Region.noSelect ops = true) (hf:Region.free md ops l i = true) (hr:(Region.ready md ops l).contains i = true) (hw:(oL.after.any fun e => Region.binds md e && e.on == i) = true)
  (hQ:∀ c a w,Q (.panic c) (a.put oi.dst v) w → Q (.panic c) a w) (hy:YieldsIf P ops S oi v a) (hS:S w)
  (h:anyTill P md ops Q S L n (l.setIfInBounds i true) (a.put oi.dst v) w):anyTill P md ops Q S L (n + 1) l a w:=by
 obtain ⟨e,h1,h2⟩:=Array.any_eq_true'.1 hw
 simp only [Bool.and_eq_true,beq_iff_eq] at h2
 exact anyTill_first hi hn hL ⟨e,h1,h2⟩ hQ n l a w (Region.free_spec hi hf) (by simpa using hr) hy hS h
theorem anyTill_one {i:Nat} {o:Oper} {n:Nat} {l:Array Bool} {a:Act} {w:World} (hr:Region.ready md ops l = [i]) (ho:ops[i]? = some o) (hg:Region.wanted o (yielded ops a.tmps) = true)
  (h:∀ K:Act → World → Prop,(∀ a' w',(i ≠ L → S w') → anyTill P md ops Q S L n (l.setIfInBounds i true) a' w' → K a' w') → o.wp P a w K Q):anyTill P md ops Q S L (n + 1) l a w:=by
 refine ⟨fun e => absurd (hr.symm.trans e) (by simp),fun j hj => ?_⟩
 rw [hr] at hj
 obtain rfl:j = i:=by simpa using hj
 unfold wpOp
 simp only [ho,hg,if_true]
 exact .inl (h _ fun a' w' h1 h2 => ⟨h1,h2⟩)
theorem anyTill_done {n:Nat} {l:Array Bool} {a:Act} {w:World} (hr:Region.ready md ops l = []) (h:Q .normal a w):anyTill P md ops Q S L n l a w:=by
 cases n with
 | zero => exact ⟨hr,h⟩
 | succ n => exact ⟨fun _ => h,fun i hi => absurd hi (by rw [hr]; simp)⟩
end
end Go.Proofs.YthmcfpeobkgihaaGreatDoor
