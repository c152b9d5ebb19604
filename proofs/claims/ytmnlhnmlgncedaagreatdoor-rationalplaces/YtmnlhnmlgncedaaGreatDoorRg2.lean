/- Rx2 -/
import Derived.Test.YtmnlhnmlgncedaaGreatDoorPa2
import Derived.Test.YtmnlhnmlgncedaaGreatDoorRl2
import Derived.Test.YtmnlhnmlgncedaaGreatDoorGc
import Derived.Test.YtmnlhnmlgncedaaGreatDoorRp5
import Derived.Test.YtmnlhnmlgncedaaGreatDoorRc1
import Derived.Test.YtmnlhnmlgncedaaGreatDoorWik
import Derived.Deep.LoopGhost
import Derived.Deep.RegionHeld3
import Derived.Test.YtmnlhnmlgncedaaGreatDoorRxc
import Derived.Test.YtmnlhnmlgncedaaGreatDoorMy2
import Derived.Test.YtmnlhnmlgncedaaGreatDoorRu3
namespace Go.Proofs.YtmnlhnmlgncedaaGreatDoor
open Go.RowKit Go.Deep
set_option linter.unusedVariables false




set_option maxRecDepth 100000 in
set_option maxHeartbeats 8000000 in
theorem rdec_bad (g:Bool) (a b:Option Addr) (n c m d:Nat) (x y:List Nat) (pl:Int) (w:World) (hx:Sl w a n c x) (hy:Sl w b m d y) (ox:Ok x) (oy:Ok y) (hT:Tab64 w) (hm:MayR g x y = false) :
  Calls Tryz.prog 17 #[ratV g a n c b m d,.int .i64 pl] w fun e w' => DcPost g x y pl w e w':=by
 have bx:=Box.made w g a n c b m d
 obtain ⟨wa,hwa⟩:∃ wa,ratBox w g a n c b m d = wa:=⟨_,rfl⟩
 rw [hwa] at bx
 have hba:Below w.heap.size w wa:=by rw [← hwa]; exact bAl
 unfold ratBox at hwa
 have p0:=bx.d0
 have p1:=bx.d1
 have p2:=bx.d2
 have KM:=ratMay_any g a b n c m d x y wa (hx.below hba) (hy.below hba) ox oy (hT.below hba)
 rw [hm] at KM
 unfold ratV at KM ⊢
 have HKM:=Hj KM
 have HBa:=Hj hba
 have HR:=Hj (show DcR g x y pl _ _ from DcR.bad hm)
 clear KM hx hy bx hba hm hT
 go_enter Tryz.func17,Tryz.ntmps17
 go_wp2_with fail
 refine (Uh HKM).mono ?_
 rintro _ wb ⟨rfl,hbb⟩
 have HB:=Hj ((Uh HBa).trans (hbb.mono (Uh HBa).size))
 clear hbb HKM
 go_wp2_with fail
 go_ret2
 exact ⟨_,_,rfl,Uh HR,Uh HB⟩
set_option maxRecDepth 100000 in
set_option maxHeartbeats 8000000 in
theorem rdec_neg (g:Bool) (a b:Option Addr) (n c m d:Nat) (x y:List Nat) (pl:Int) (w:World) (hx:Sl w a n c x) (hy:Sl w b m d y) (ox:Ok x) (oy:Ok y) (hT:Tab64 w) (hm:MayR g x y = true) (hp:pl < 0) :
  Calls Tryz.prog 17 #[ratV g a n c b m d,.int .i64 pl] w fun e w' => DcPost g x y pl w e w':=by
 have bx:=Box.made w g a n c b m d
 obtain ⟨wa,hwa⟩:∃ wa,ratBox w g a n c b m d = wa:=⟨_,rfl⟩
 rw [hwa] at bx
 have hba:Below w.heap.size w wa:=by rw [← hwa]; exact bAl
 unfold ratBox at hwa
 have p0:=bx.d0
 have p1:=bx.d1
 have p2:=bx.d2
 have KM:=ratMay_any g a b n c m d x y wa (hx.below hba) (hy.below hba) ox oy (hT.below hba)
 rw [hm] at KM
 unfold ratV at KM ⊢
 have HKM:=Hj KM
 have HBa:=Hj hba
 have HR:=Hj (show DcR g x y pl _ _ from DcR.arg hm (.inl hp))
 have t1:decide (pl < 0) = true:=decide_eq_true hp
 clear KM hx hy bx hba hm hT
 go_enter Tryz.func17,Tryz.ntmps17
 go_wp2_with fail
 refine (Uh HKM).mono ?_
 rintro _ wb ⟨rfl,hbb⟩
 have HB:=Hj ((Uh HBa).trans (hbb.mono (Uh HBa).size))
 clear hbb HKM
 go_wp2_with fail
 go_ret2
 exact ⟨_,_,rfl,Uh HR,Uh HB⟩
set_option maxRecDepth 100000 in
set_option maxHeartbeats 8000000 in
theorem rdec_big (g:Bool) (a b:Option Addr) (n c m d:Nat) (x y:List Nat) (pl:Int) (w:World) (hx:Sl w a n c x) (hy:Sl w b m d y) (ox:Ok x) (oy:Ok y) (hT:Tab64 w) (hm:MayR g x y = true) (hp:1000 < pl) :
  Calls Tryz.prog 17 #[ratV g a n c b m d,.int .i64 pl] w fun e w' => DcPost g x y pl w e w':=by
 have bx:=Box.made w g a n c b m d
 obtain ⟨wa,hwa⟩:∃ wa,ratBox w g a n c b m d = wa:=⟨_,rfl⟩
 rw [hwa] at bx
 have hba:Below w.heap.size w wa:=by rw [← hwa]; exact bAl
 unfold ratBox at hwa
 have p0:=bx.d0
 have p1:=bx.d1
 have p2:=bx.d2
 have KM:=ratMay_any g a b n c m d x y wa (hx.below hba) (hy.below hba) ox oy (hT.below hba)
 rw [hm] at KM
 unfold ratV at KM ⊢
 have HKM:=Hj KM
 have HBa:=Hj hba
 have HR:=Hj (show DcR g x y pl _ _ from DcR.arg hm (.inr hp))
 have t1:¬ pl < 0:=by omega
 have t2:decide (pl < 0) = false:=decide_eq_false t1
 have t3:decide (1000 < pl) = true:=decide_eq_true hp
 clear KM hx hy bx hba hm hT
 go_enter Tryz.func17,Tryz.ntmps17
 go_wp2_with fail
 refine (Uh HKM).mono ?_
 rintro _ wb ⟨rfl,hbb⟩
 have HB:=Hj ((Uh HBa).trans (hbb.mono (Uh HBa).size))
 clear hbb HKM
 go_wp2_with fail
 go_ret2
 exact ⟨_,_,rfl,Uh HR,Uh HB⟩
theorem rdec_any (g:Bool) (a b:Option Addr) (n c m d:Nat) (x y:List Nat) (pl:Int) (w:World) (hx:Sl w a n c x) (hy:Sl w b m d y) (ox:Ok x) (oy:Ok y) (hT:Tab64 w) (hR:Rep0) :
  Calls Tryz.prog 17 #[ratV g a n c b m d,.int .i64 pl] w fun e w' => DcPost g x y pl w e w':=by
 cases hm:MayR g x y
 ·exact rdec_bad g a b n c m d x y pl w hx hy ox oy hT hm
 ·by_cases h1:pl < 0
  ·exact rdec_neg g a b n c m d x y pl w hx hy ox oy hT hm h1
  ·by_cases h2:1000 < pl
   ·exact rdec_big g a b n c m d x y pl w hx hy ox oy hT hm h2
   ·obtain ⟨k,rfl⟩:∃ k:Nat,pl = (k:Int):=⟨pl.toNat,by omega⟩
    have hk:k ≤ 1000:=by omega
    by_cases hz:k = 0
    ·cases g
     ·exact rdec_zF a b n c m d x y k w hx hy ox oy hm hk hz hT
     ·by_cases h0:rdQ (val x * 10 ^ k) (val y) = 0
      ·exact rdec_zZ a b n c m d x y k w hx hy ox oy hm hk hz hT h0
      ·exact rdec_zP a b n c m d x y k w hx hy ox oy hm hk hz hT h0
    ·cases g
     ·exact rdec_nF a b n c m d x y k w hx hy ox oy hm hk hz hT hR
     ·by_cases h0:rdQ (val x * 10 ^ k) (val y) = 0
      ·exact rdec_nZ a b n c m d x y k w hx hy ox oy hm hk hz hT h0 hR
      ·exact rdec_nP a b n c m d x y k w hx hy ox oy hm hk hz hT h0 hR
theorem three_two (w1:World) (R:Nat) (v0 v1 v2:Value) (h0:w1.cell? ⟨R,0,none⟩ = some v0) (h:∀ i,i < 3 → ∃ v,w1.cell? ⟨R,i,none⟩ = some v) :
  ((w1.setCell ⟨R,1,none⟩ v1).setCell ⟨R,2,none⟩ v2).cell? ⟨R,0,none⟩ = some v0 ∧ ((w1.setCell ⟨R,1,none⟩ v1).setCell ⟨R,2,none⟩ v2).cell? ⟨R,1,none⟩ = some v1 ∧ ((w1.setCell ⟨R,1,none⟩ v1).setCell ⟨R,2,none⟩ v2).cell? ⟨R,2,none⟩ = some v2:=by
 obtain ⟨x1,h1⟩:=h 1 (by decide)
 obtain ⟨x2,h2⟩:=h 2 (by decide)
 have s1:(w1.setCell ⟨R,1,none⟩ v1).cell? ⟨R,1,none⟩ = some v1:=World.cell?_setCell_same _ _ _ h1
 have s2:(w1.setCell ⟨R,1,none⟩ v1).cell? ⟨R,2,none⟩ = some x2:=by rw [World.cell?_setCell_other _ _ _ _ (by simp)]; exact h2
 refine ⟨?_,?_,World.cell?_setCell_same _ _ _ s2⟩
 ·rw [World.cell?_setCell_other _ _ _ _ (by simp),World.cell?_setCell_other _ _ _ _ (by simp)]; exact h0
 ·rw [World.cell?_setCell_other _ _ _ _ (by simp)]; exact s1

set_option maxHeartbeats 8000000 in
set_option maxRecDepth 100000 in
theorem ratpow_neg (g:Bool) (a b:Option Addr) (n c m d:Nat) (x y:List Nat) (kk:Nat) (w:World) (hx:Sl w a n c x) (hy:Sl w b m d y) (ox:Ok x) (oy:Ok y) (hT:Tab64 w) (hm:MayR g x y = true) (hkk:kk ≤ 1024) (hk0:0 < kk) (hz:n ≠ 0) :
  Calls Tryz.prog 18 #[ratV g a n c b m d,.int .i64 (-(kk:Int))] w fun e w' => ResR w w' (pwF g y x kk).1.1 (pwF g y x kk).1.2.1 (pwF g y x kk).1.2.2 (pwF g y x kk).2 e:=by
 have HMM:=Hj (And.intro (MayR.parts hm).2.1 (MayR.parts hm).1)
 obtain ⟨N,hN⟩:∃ N,val y ^ kk = N:=⟨_,rfl⟩
 obtain ⟨M,hM⟩:∃ M,val x ^ kk = M:=⟨_,rfl⟩
 obtain ⟨SB,hSB⟩:∃ SB,(g && decide (kk % 2 = 1)) = SB:=⟨_,rfl⟩
 unfold pwF
 rw [hN,hM,hSB]
 obtain ⟨RR,hRR⟩:∃ r,(if bigN N || bigN M then (((false,[],[]),2):(Bool × List Nat × List Nat) × Int) else ((SB && decide (N ≠ 0),limbs N,limbs M),0)) = r:=⟨_,rfl⟩
 rw [hRR]
 have HRR:=Hj hRR
 clear hRR
 have HNM:=Hj (And.intro hN hM)
 have HPAR:=Hj (show (g = false ∧ SB = false) ∨ (g = true ∧ kk % 2 = 1 ∧ SB = true) ∨ (g = true ∧ kk % 2 = 0 ∧ SB = false) by
  cases g
  ·exact .inl ⟨rfl,by rw [← hSB]; rfl⟩
  ·rcases (show kk % 2 = 1 ∨ kk % 2 = 0 by omega) with h | h
   ·exact .inr (.inl ⟨rfl,h,by rw [← hSB]; simp [h]⟩)
   ·exact .inr (.inr ⟨rfl,h,by rw [← hSB]; simp [h]⟩))
 clear hN hM hSB
 have bx:=Box.made w g a n c b m d
 obtain ⟨wa,hwa⟩:∃ wa,ratBox w g a n c b m d = wa:=⟨_,rfl⟩
 rw [hwa] at bx
 obtain ⟨wb,hwb⟩:∃ wb,wa.alloc (.cells #[.bool false,.slice none 0 0,.slice none 0 0] 25) = wb:=⟨_,rfl⟩
 have hba:Below w.heap.size w wa:=by rw [← hwa]; exact bAl
 have hbb:Below wa.heap.size wa wb:=by rw [← hwb]; exact bAl
 have hO:Out wb wa.heap.size:=by rw [← hwb]; exact Out.made wa
 have hoR:Out wb w.heap.size:=by
  have h0:=bx.keep hbb
  unfold ratBox at hwa
  refine ⟨fun i hi => ?_,fun i hi => ?_,h0.lt⟩
  ·match i,hi with
   | 0,_ => exact ⟨_,h0.d0⟩
   | 1,_ => exact ⟨_,h0.d1⟩
   | 2,_ => exact ⟨_,h0.d2⟩
  ·match i,hi with
   | 0,_ => rw [← hwb,← hwa]; simp
   | 1,_ => rw [← hwb,← hwa]; simp
   | 2,_ => rw [← hwb,← hwa]; simp
 have hX:=bx.keep hbb
 have hB:=hba.trans (hbb.mono hba.size)
 have hlt:=bx.lt
 have d0:=hX.d0
 have d1:=hX.d1
 have d2:=hX.d2
 unfold ratBox at hwa
 have KM:=ratMay_any g a b n c m d x y wb (hx.below hB) (hy.below hB) ox oy (hT.below hB)
 rw [hm] at KM
 have HKM:=Hj KM
 have HX:=Hj (And.intro hX (And.intro hO (And.intro hoR hB)))
 have HS:=Hj (And.intro hx hy)
 have HLn:=Hj hx.len
 unfold ratV at HKM ⊢
 clear bx hX hO hoR hB hba hbb KM hx hy hT
 have u1:¬ -(kk:Int) < -1024:=by omega
 have u2:¬ 1024 < -(kk:Int):=by omega
 have u3:-(kk:Int) < 0:=by omega
 have u4:IntKind.i64.wrap (kk:Int) = (kk:Int):=(by rw [IntKind.wrap_i64]; omega)
 go_enter Tryz.func18,Tryz.ntmps18
 go_wp2_with fail
 refine (Uh HKM).mono ?_
 rintro _ wl ⟨rfl,b1⟩
 have HY:=Hj (And.intro ((Uh HX).1.keep b1) (And.intro ((Uh HX).2.1.keep b1) (And.intro ((Uh HX).2.2.1.keep b1) ((Uh HX).2.2.2.trans (b1.mono (Uh HX).2.2.2.size)))))
 clear b1 HKM HX d0 d1 d2
 have z:=(Uh HY).1
 have e0:=z.d0
 have e1:=z.d1
 have e2:=z.d2
 have KZ:=isZero_any g a b n c m d wl
 simp only [hz,decide_false] at KZ
 have HKZ:=Hj KZ
 unfold ratV at HKZ
 clear z KZ
 go_wp2_with fail
 refine (Uh HKZ).mono ?_
 rintro _ wl2 ⟨rfl,b2⟩
 have HY2:=Hj (And.intro ((Uh HY).1.keep b2) (And.intro ((Uh HY).2.1.keep b2) (And.intro ((Uh HY).2.2.1.keep b2) ((Uh HY).2.2.2.trans (b2.mono (Uh HY).2.2.2.size)))))
 clear b2 HKZ HY e0 e1 e2
 have z:=(Uh HY2).1
 have zo:=(Uh HY2).2.2.1
 have z0:=z.d0
 have z1:=z.d1
 have z2:=z.d2
 have y1:=zo.fz 1 (by decide)
 have y2:=zo.fz 2 (by decide)
 have hcs:Chg (fun j => j = w.heap.size) wl2 ((wl2.setCell ⟨w.heap.size,1,none⟩ (.slice b m d)).setCell ⟨w.heap.size,2,none⟩ (.slice a n c)):=(Chg.of_set (S:=fun j => j = w.heap.size) _ _ _ _ rfl).trans (Chg.of_set (S:=fun j => j = w.heap.size) _ _ _ _ rfl)
 have h3:=three_two wl2 w.heap.size (.bool g) (.slice b m d) (.slice a n c) z0 zo.cells
 have hOs:Out ((wl2.setCell ⟨w.heap.size,1,none⟩ (.slice b m d)).setCell ⟨w.heap.size,2,none⟩ (.slice a n c)) wa.heap.size:=by
  refine ⟨fun i hi => ?_,fun i hi => ?_,Nat.lt_of_lt_of_le (Uh HY2).2.1.lt hcs.size⟩
  ·obtain ⟨v,hv⟩:=(Uh HY2).2.1.cells i hi
   exact ⟨v,hcs.cell (show wa.heap.size ≠ w.heap.size by omega) hv⟩
  ·have:=(Uh HY2).2.1.fz i hi
   simpa using this
 have hBs:=(Uh HY2).2.2.2.trans (hcs.below (Uh HY2).2.2.2.size (fun k hk h => by omega))
 have HSL:=Hj (And.intro ((Uh HS).2.below hBs) ((Uh HS).1.below hBs))
 have HY3:=Hj (And.intro True.intro (And.intro hOs (And.intro True.intro hBs)))
 have e0:=h3.1
 have e1:=h3.2.1
 have e2:=h3.2.2
 clear z zo hcs h3 hOs hBs HY2
 have mX:=(Uh HMM).1
 have mY:=(Uh HMM).2
 have z:=(Uh HY3).1
 have KN:=npow_any b m d y (kk:Int) ((wl2.setCell ⟨w.heap.size,1,none⟩ (.slice b m d)).setCell ⟨w.heap.size,2,none⟩ (.slice a n c)) (Uh HSL).1 oy
 rw [powL_fit mX hkk,(Uh HNM).1] at KN
 have HKN:=Hj KN
 clear KN z
 go_wp2_with fail
 clear z0 z1 z2 y1 y2
 generalize (wl2.setCell ⟨w.heap.size,1,none⟩ (.slice b m d)).setCell ⟨w.heap.size,2,none⟩ (.slice a n c) = ws at *
 refine (Uh HKN).mono ?_
 rintro _ w1 ⟨aq,mq,cq,rfl,sq,nq,bq⟩
 have KM:=npow_any a n c x (kk:Int) w1 ((Uh HSL).2.below bq) ox
 rw [powL_fit mY hkk,(Uh HNM).2] at KM
 have HKM2:=Hj KM
 have q0:=(ck bq e0)
 have q2:=(ck bq e2)
 have HQ:=Hj (And.intro sq (And.intro nq bq))
 clear KM sq nq bq HKN
 go_wp2_with fail
 refine (Uh HKM2).mono ?_
 rintro _ w2 ⟨az,mz,cz,rfl,sz,nz,bz⟩
 have t0:=(ck bz q0)
 have hb2:=(Uh HQ).2.2.trans (bz.mono (Uh HQ).2.2.size)
 have hlo:=(Uh HY3).2.1.lt
 have HNE:=Hj (And.intro (fun x hx => by have h1:=(Uh HQ).2.1 x hx; omega:∀ x,aq = some x → x.block ≠ wa.heap.size) (fun x hx => by have h1:=nz x hx; have h2:=(Uh HQ).2.2.size; omega:∀ x,az = some x → x.block ≠ wa.heap.size))
 have HP:=Hj (And.intro ((Uh HQ).1.below bz) (And.intro sz (And.intro (fun x hx => by have h1:=(Uh HQ).2.1 x hx; have h2:=(Uh HY3).2.2.2.size; omega:NewAt w.heap.size aq) (And.intro (fun x hx => by have h1:=nz x hx; have h2:=(Uh HQ).2.2.size; have h3:=(Uh HY3).2.2.2.size; omega:NewAt w.heap.size az) (And.intro ((Uh HY3).2.2.2.trans (hb2.mono (Uh HY3).2.2.2.size)) ((Uh HY3).2.1.keep hb2))))))
 clear HQ sz nz bz hb2 hlo HKM2 HY3 HSL e0 e1 e2 q0 q2 mX mY HNM
 cases hbN:bigN N
 ·cases hbM:bigN M
  ·have eN:fitL N = (limbs N,0):=fitL_ok (by unfold bigN at hbN; simpa using hbN)
   have eM:fitL M = (limbs M,0):=fitL_ok (by unfold bigN at hbM; simpa using hbM)
   rw [eN,eM] at HP
   rw [eN,eM]
   dsimp only at HP ⊢
   have K:=answer_any SB aq az mq cq mz cz 0 w2
   unfold AnPost at K
   rw [if_pos rfl] at K
   unfold ratV at K
   obtain ⟨SG,hSG⟩:∃ SG,(SB && decide (0 < mq)) = SG:=⟨_,rfl⟩
   rw [hSG] at K
   have HSG:=Hj hSG
   have HK:=Hj K
   have HBB:=Hj (And.intro hbN hbM)
   clear K eN eM hbN hbM hSG
   rcases Uh HPAR with ⟨hg,hs⟩ | ⟨hg,hk2,hs⟩ | ⟨hg,hk2,hs⟩
   all_goals
    subst hg
    subst hs
    try (have k1:(kk:Int) % 2 = 1:=by omega)
    try (have k1:(kk:Int) % 2 = 0:=by omega)
    go_wp2_with fail
    refine (Uh HK).mono ?_
    rintro _ wy ⟨rfl,hby⟩
    have hO3:=(Uh HP).2.2.2.2.2.keep hby
    obtain ⟨i0,o0⟩:=hO3.cells 0 (by decide)
    obtain ⟨i1,o1⟩:=hO3.cells 1 (by decide)
    obtain ⟨i2,o2⟩:=hO3.cells 2 (by decide)
    have r0:=hO3.fz 0 (by decide)
    have r1:=hO3.fz 1 (by decide)
    have r2:=hO3.fz 2 (by decide)
    have H4:=Hj (three_set wy wa.heap.size (.bool SG) (.slice aq mq cq) (.slice az mz cz) hO3.cells)
    have HBy:=Hj hby
    clear hO3 hby HK
    go_wp2_with fail
    obtain ⟨t0,t1,t2,c4⟩:=Uh H4
    generalize ((wy.setCell ⟨wa.heap.size,0,none⟩ (.bool SG)).setCell ⟨wa.heap.size,1,none⟩ (.slice aq mq cq)).setCell ⟨wa.heap.size,2,none⟩ (.slice az mz cz) = wk at *
    refine bodyPost_ret (by simp [results,Tryz.results18,go_sem,t0,t1,t2]; try rfl) rfl ?_
    have hRr:=Uh HRR
    rw [(Uh HBB).1,(Uh HBB).2] at hRr
    rw [← hRr]
    have hBy:Below w.heap.size w wy:=(Uh HP).2.2.2.2.1.trans ((Uh HBy).mono (Uh HP).2.2.2.2.1.size)
    have hln:=(Uh HP).1.len
    refine ⟨_,rfl,aq,mq,cq,az,mz,cz,?_,((Uh HP).1.below (Uh HBy)).chg c4 (fun x hx _ => (Uh HNE).1 x hx),((Uh HP).2.1.below (Uh HBy)).chg c4 (fun x hx _ => (Uh HNE).2 x hx),(Uh HP).2.2.1,(Uh HP).2.2.2.1,hBy.trans (c4.below hBy.size (fun k hk => by omega))⟩
    unfold ratV
    rw [← Uh HSG,Tok.len_pos hln]
    rfl
  ·have eN:fitL N = (limbs N,0):=fitL_ok (by unfold bigN at hbN; simpa using hbN)
   have eM:fitL M = ([],2):=fitL_big (by unfold bigN at hbM; simpa using hbM)
   rw [eN,eM] at HP
   rw [eN,eM]
   dsimp only at HP ⊢
   have K:=answer_any SB aq az mq cq mz cz 2 w2
   unfold AnPost at K
   rw [if_neg (by decide)] at K
   unfold ratV at K
   have HK:=Hj K
   have HBB:=Hj (And.intro hbN hbM)
   clear K eN eM hbN hbM
   rcases Uh HPAR with ⟨hg,hs⟩ | ⟨hg,hk2,hs⟩ | ⟨hg,hk2,hs⟩
   all_goals
    subst hg
    subst hs
    try (have k1:(kk:Int) % 2 = 1:=by omega)
    try (have k1:(kk:Int) % 2 = 0:=by omega)
    go_wp2_with fail
    refine (Uh HK).mono ?_
    rintro _ wy ⟨rfl,hby⟩
    have hO3:=(Uh HP).2.2.2.2.2.keep hby
    obtain ⟨i0,o0⟩:=hO3.cells 0 (by decide)
    obtain ⟨i1,o1⟩:=hO3.cells 1 (by decide)
    obtain ⟨i2,o2⟩:=hO3.cells 2 (by decide)
    have r0:=hO3.fz 0 (by decide)
    have r1:=hO3.fz 1 (by decide)
    have r2:=hO3.fz 2 (by decide)
    have H4:=Hj (three_set wy wa.heap.size (.bool false) (.slice none 0 0) (.slice none 0 0) hO3.cells)
    have HBy:=Hj hby
    clear hO3 hby HK
    go_wp2_with fail
    obtain ⟨t0,t1,t2,c4⟩:=Uh H4
    generalize ((wy.setCell ⟨wa.heap.size,0,none⟩ (.bool false)).setCell ⟨wa.heap.size,1,none⟩ (.slice none 0 0)).setCell ⟨wa.heap.size,2,none⟩ (.slice none 0 0) = wk at *
    refine bodyPost_ret (by simp [results,Tryz.results18,go_sem,t0,t1,t2]; try rfl) rfl ?_
    rw [show RR = ((false,[],[]),2) from by rw [← Uh HRR,(Uh HBB).1,(Uh HBB).2]; rfl]
    have hBy:Below w.heap.size w wy:=(Uh HP).2.2.2.2.1.trans ((Uh HBy).mono (Uh HP).2.2.2.2.1.size)
    exact ⟨_,rfl,none,0,0,none,0,0,rfl,sl_nil _,sl_nil _,newAt_nil _,newAt_nil _,hBy.trans (c4.below hBy.size (fun k hk => by omega))⟩
 ·cases hbM:bigN M
  ·have eN:fitL N = ([],2):=fitL_big (by unfold bigN at hbN; simpa using hbN)
   have eM:fitL M = (limbs M,0):=fitL_ok (by unfold bigN at hbM; simpa using hbM)
   rw [eN,eM] at HP
   rw [eN,eM]
   dsimp only at HP ⊢
   have K:=answer_any SB aq az mq cq mz cz 2 w2
   unfold AnPost at K
   rw [if_neg (by decide)] at K
   unfold ratV at K
   have HK:=Hj K
   have HBB:=Hj (And.intro hbN hbM)
   clear K eN eM hbN hbM
   rcases Uh HPAR with ⟨hg,hs⟩ | ⟨hg,hk2,hs⟩ | ⟨hg,hk2,hs⟩
   all_goals
    subst hg
    subst hs
    try (have k1:(kk:Int) % 2 = 1:=by omega)
    try (have k1:(kk:Int) % 2 = 0:=by omega)
    go_wp2_with fail
    refine (Uh HK).mono ?_
    rintro _ wy ⟨rfl,hby⟩
    have hO3:=(Uh HP).2.2.2.2.2.keep hby
    obtain ⟨i0,o0⟩:=hO3.cells 0 (by decide)
    obtain ⟨i1,o1⟩:=hO3.cells 1 (by decide)
    obtain ⟨i2,o2⟩:=hO3.cells 2 (by decide)
    have r0:=hO3.fz 0 (by decide)
    have r1:=hO3.fz 1 (by decide)
    have r2:=hO3.fz 2 (by decide)
    have H4:=Hj (three_set wy wa.heap.size (.bool false) (.slice none 0 0) (.slice none 0 0) hO3.cells)
    have HBy:=Hj hby
    clear hO3 hby HK
    go_wp2_with fail
    obtain ⟨t0,t1,t2,c4⟩:=Uh H4
    generalize ((wy.setCell ⟨wa.heap.size,0,none⟩ (.bool false)).setCell ⟨wa.heap.size,1,none⟩ (.slice none 0 0)).setCell ⟨wa.heap.size,2,none⟩ (.slice none 0 0) = wk at *
    refine bodyPost_ret (by simp [results,Tryz.results18,go_sem,t0,t1,t2]; try rfl) rfl ?_
    rw [show RR = ((false,[],[]),2) from by rw [← Uh HRR,(Uh HBB).1,(Uh HBB).2]; rfl]
    have hBy:Below w.heap.size w wy:=(Uh HP).2.2.2.2.1.trans ((Uh HBy).mono (Uh HP).2.2.2.2.1.size)
    exact ⟨_,rfl,none,0,0,none,0,0,rfl,sl_nil _,sl_nil _,newAt_nil _,newAt_nil _,hBy.trans (c4.below hBy.size (fun k hk => by omega))⟩
  ·have eN:fitL N = ([],2):=fitL_big (by unfold bigN at hbN; simpa using hbN)
   have eM:fitL M = ([],2):=fitL_big (by unfold bigN at hbM; simpa using hbM)
   rw [eN,eM] at HP
   rw [eN,eM]
   dsimp only at HP ⊢
   have K:=answer_any SB aq az mq cq mz cz 2 w2
   unfold AnPost at K
   rw [if_neg (by decide)] at K
   unfold ratV at K
   have HK:=Hj K
   have HBB:=Hj (And.intro hbN hbM)
   clear K eN eM hbN hbM
   rcases Uh HPAR with ⟨hg,hs⟩ | ⟨hg,hk2,hs⟩ | ⟨hg,hk2,hs⟩
   all_goals
    subst hg
    subst hs
    try (have k1:(kk:Int) % 2 = 1:=by omega)
    try (have k1:(kk:Int) % 2 = 0:=by omega)
    go_wp2_with fail
    refine (Uh HK).mono ?_
    rintro _ wy ⟨rfl,hby⟩
    have hO3:=(Uh HP).2.2.2.2.2.keep hby
    obtain ⟨i0,o0⟩:=hO3.cells 0 (by decide)
    obtain ⟨i1,o1⟩:=hO3.cells 1 (by decide)
    obtain ⟨i2,o2⟩:=hO3.cells 2 (by decide)
    have r0:=hO3.fz 0 (by decide)
    have r1:=hO3.fz 1 (by decide)
    have r2:=hO3.fz 2 (by decide)
    have H4:=Hj (three_set wy wa.heap.size (.bool false) (.slice none 0 0) (.slice none 0 0) hO3.cells)
    have HBy:=Hj hby
    clear hO3 hby HK
    go_wp2_with fail
    obtain ⟨t0,t1,t2,c4⟩:=Uh H4
    generalize ((wy.setCell ⟨wa.heap.size,0,none⟩ (.bool false)).setCell ⟨wa.heap.size,1,none⟩ (.slice none 0 0)).setCell ⟨wa.heap.size,2,none⟩ (.slice none 0 0) = wk at *
    refine bodyPost_ret (by simp [results,Tryz.results18,go_sem,t0,t1,t2]; try rfl) rfl ?_
    rw [show RR = ((false,[],[]),2) from by rw [← Uh HRR,(Uh HBB).1,(Uh HBB).2]; rfl]
    have hBy:Below w.heap.size w wy:=(Uh HP).2.2.2.2.1.trans ((Uh HBy).mono (Uh HP).2.2.2.2.1.size)
    exact ⟨_,rfl,none,0,0,none,0,0,rfl,sl_nil _,sl_nil _,newAt_nil _,newAt_nil _,hBy.trans (c4.below hBy.size (fun k hk => by omega))⟩

theorem ratPow_any (g:Bool) (a b:Option Addr) (n c m d:Nat) (x y:List Nat) (k:Int) (w:World) (hx:Sl w a n c x) (hy:Sl w b m d y) (ox:Ok x) (oy:Ok y) (hT:Tab64 w) :
  Calls Tryz.prog 18 #[ratV g a n c b m d,.int .i64 k] w fun e w' => ResR w w' (PowF g x y k).1.1 (PowF g x y k).1.2.1 (PowF g x y k).1.2.2 (PowF g x y k).2 e:=by
 have hl:=hx.len
 cases hm:MayR g x y
 ·have e:PowF g x y k = ((false,[],[]),40):=by unfold PowF; rw [hm]; rfl
  rw [e]
  exact ratpow_bad g a b n c m d x y k w hx hy ox oy hT hm
 ·by_cases hk:k < -1024 ∨ 1024 < k
  ·have e:PowF g x y k = ((false,[],[]),1):=by unfold PowF; rw [if_pos hm,if_pos hk]
   rw [e]
   exact ratpow_arg g a b n c m d x y k w hx hy ox oy hT hm hk
  ·by_cases h0:k < 0
   ·by_cases hz:x = []
    ·have e:PowF g x y k = ((false,[],[]),3):=by unfold PowF; rw [if_pos hm,if_neg hk,if_pos h0,if_pos hz]
     rw [e]
     exact ratpow_zero g a b n c m d x y k w hx hy ox oy hT hm (by omega) h0 (by rw [← hl,hz]; rfl)
    ·have e:PowF g x y k = pwF g y x (-k).toNat:=by unfold PowF; rw [if_pos hm,if_neg hk,if_pos h0,if_neg hz]
     rw [e]
     obtain ⟨kk,hkk⟩:∃ kk:Nat,k = -(kk:Int):=⟨(-k).toNat,by omega⟩
     subst hkk
     rw [show (-(-(kk:Int))).toNat = kk by omega]
     exact ratpow_neg g a b n c m d x y kk w hx hy ox oy hT hm (by omega) (by omega) (fun e => hz (List.eq_nil_of_length_eq_zero (by omega)))
   ·have e:PowF g x y k = pwF g x y k.toNat:=by unfold PowF; rw [if_pos hm,if_neg hk,if_neg h0]
    rw [e]
    obtain ⟨kk,hkk⟩:∃ kk:Nat,k = (kk:Int):=⟨k.toNat,by omega⟩
    subst hkk
    rw [Int.toNat_natCast]
    exact ratpow_pos g a b n c m d x y kk w hx hy ox oy hT hm (by omega)
end Go.Proofs.YtmnlhnmlgncedaaGreatDoor
namespace Go.Proofs.YtmnlhnmlgncedaaGreatDoor
open Go.ChangeShapes Go.WideShapes Go.ChangeAt Go.RowKit Go.Deep
set_option linter.unusedVariables false

end Go.Proofs.YtmnlhnmlgncedaaGreatDoor
namespace Go.Proofs.YtmnlhnmlgncedaaGreatDoor
open Go.RowKit Go.Deep
set_option linter.unusedVariables false

end Go.Proofs.YtmnlhnmlgncedaaGreatDoor
