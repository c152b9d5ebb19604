/- Wke -/
import Derived.Test.YtmmeiebbnjjijaaGreatDoorWr2
import Derived.Test.YtmmeiebbnjjijaaGreatDoorCmp
import Derived.Test.YtmmeiebbnjjijaaGreatDoorWrf
import Derived.Test.YtmmeiebbnjjijaaGreatDoorWrh
import Derived.Test.YtmmeiebbnjjijaaGreatDoorRgt
namespace Go.Proofs.YtmmeiebbnjjijaaGreatDoor
open Go.RowKit Go.Deep
set_option linter.unusedVariables false
def rdQ (X Y:Nat):Nat:=if Y < X % Y + X % Y ∨ (Y = X % Y + X % Y ∧ X / Y % 2 = 1) then X / Y + 1 else X / Y
def RoundF (g:Bool) (x y:List Nat):(Bool × List Nat × List Nat) × Int:=if MayR g x y then (((g && decide (rdQ (val x) (val y) ≠ 0)),limbs (rdQ (val x) (val y)),[1]),0) else ((false,[],[]),40)
theorem rdQ_le {X Y:Nat} (hY:0 < Y):rdQ X Y ≤ X:=by
 unfold rdQ
 split
 ·next h =>
  have h2:X % Y ≠ 0:=by omega
  exact incr_fit hY h2
 ·exact Nat.div_le_self _ _

set_option maxHeartbeats 4000000 in
theorem roundsUp_any (al ad:Option Addr) (ml cl md cd:Nat) (xs ys:List Nat) (odd:Bool) (w:World) (h1:Sl w al ml cl xs) (h2:Sl w ad md cd ys) (ox:Ok xs) (oy:Ok ys) (kx:MayL xs = true) (ky:MayL ys = true) (hle:val xs ≤ val ys) :
  Calls Tryz.prog 49 #[.slice al ml cl,.slice ad md cd,.bool odd] w fun e w' => e = .returned (.bool (decide (val ys < val xs + val xs) || (decide (val ys = val xs + val xs) && odd))) ∧ Below w.heap.size w w':=by
 have K1:=nsub_any ad al md cd ml cl ys xs w h2 h1 oy ox
 rw [sub_fit ky kx hle] at K1
 have HK1:=Hd K1
 have HX:=Hd h1
 have mS:MayL (limbs (val ys - val xs)) = true:=may_small ky oy (Nat.sub_le _ _)
 have hC:cmpL xs (limbs (val ys - val xs)) = cmpN (val xs) (val ys - val xs):=by unfold cmpL; rw [kx,mS,(limbs_rep _).val]; rfl
 clear K1 h1 h2 kx ky mS
 rcases Nat.lt_trichotomy (val xs + val xs) (val ys) with h | h | h
 ·have HCV:=Hd (hC.trans (cmpN_lt (show val xs < val ys - val xs by omega)))
  rw [show (decide (val ys < val xs + val xs) || (decide (val ys = val xs + val xs) && odd)) = false from by rw [decide_eq_false (by omega),decide_eq_false (by omega)]; rfl]
  clear hC h hle
  go_enter Tryz.func49,Tryz.ntmps49
  go_wp2_with fail
  refine (Uh HK1).mono ?_
  rintro _ w1 ⟨aS,mS,cS,rfl,ss,nS,b1⟩
  have KC:=ncmp_any al aS ml cl mS cS xs (limbs (val ys - val xs)) w1 ((Uh HX).below b1) ss ox (limbs_rep _).ok
  rw [Uh HCV] at KC
  have HKC:=Hd KC
  have HB1:=Hd b1
  clear KC ss nS b1 HK1
  go_wp2_with fail
  refine (sure_any _ _ _).mono ?_
  rintro _ _ ⟨rfl,hw⟩
  obtain rfl:=hw.symm
  clear hw
  go_wp2_with fail
  refine (Uh HKC).mono ?_
  rintro _ w3 ⟨rfl,jj,hw3⟩
  have HB3:=Hd (show Below w.heap.size w w3 from by rw [hw3]; exact bel_drewN (Uh HB1) jj)
  clear hw3 HKC HB1
  go_wp2_with fail
  go_ret
  exact ⟨rfl,Uh HB3⟩
 ·have HCV:=Hd (hC.trans (show cmpN (val xs) (val ys - val xs) = 0 from by rw [show val ys - val xs = val xs by omega]; simp [cmpN]))
  rw [show (decide (val ys < val xs + val xs) || (decide (val ys = val xs + val xs) && odd)) = odd from by rw [decide_eq_false (by omega),decide_eq_true (by omega)]; simp]
  clear hC h hle
  cases odd
  ·go_enter Tryz.func49,Tryz.ntmps49
   go_wp2_with fail
   refine (Uh HK1).mono ?_
   rintro _ w1 ⟨aS,mS,cS,rfl,ss,nS,b1⟩
   have KC:=ncmp_any al aS ml cl mS cS xs (limbs (val ys - val xs)) w1 ((Uh HX).below b1) ss ox (limbs_rep _).ok
   rw [Uh HCV] at KC
   have HKC:=Hd KC
   have HB1:=Hd b1
   clear KC ss nS b1 HK1
   go_wp2_with fail
   refine (sure_any _ _ _).mono ?_
   rintro _ _ ⟨rfl,hw⟩
   obtain rfl:=hw.symm
   clear hw
   go_wp2_with fail
   refine (Uh HKC).mono ?_
   rintro _ w3 ⟨rfl,jj,hw3⟩
   have HB3:=Hd (show Below w.heap.size w w3 from by rw [hw3]; exact bel_drewN (Uh HB1) jj)
   clear hw3 HKC HB1
   go_wp2_with fail
   go_ret
   exact ⟨rfl,Uh HB3⟩
  ·go_enter Tryz.func49,Tryz.ntmps49
   go_wp2_with fail
   refine (Uh HK1).mono ?_
   rintro _ w1 ⟨aS,mS,cS,rfl,ss,nS,b1⟩
   have KC:=ncmp_any al aS ml cl mS cS xs (limbs (val ys - val xs)) w1 ((Uh HX).below b1) ss ox (limbs_rep _).ok
   rw [Uh HCV] at KC
   have HKC:=Hd KC
   have HB1:=Hd b1
   clear KC ss nS b1 HK1
   go_wp2_with fail
   refine (sure_any _ _ _).mono ?_
   rintro _ _ ⟨rfl,hw⟩
   obtain rfl:=hw.symm
   clear hw
   go_wp2_with fail
   refine (Uh HKC).mono ?_
   rintro _ w3 ⟨rfl,jj,hw3⟩
   have HB3:=Hd (show Below w.heap.size w w3 from by rw [hw3]; exact bel_drewN (Uh HB1) jj)
   clear hw3 HKC HB1
   go_wp2_with fail
   go_ret
   exact ⟨rfl,Uh HB3⟩
 ·have HCV:=Hd (hC.trans (show cmpN (val xs) (val ys - val xs) = 1 from by unfold cmpN; rw [if_neg (by omega),if_neg (by omega)]))
  rw [show (decide (val ys < val xs + val xs) || (decide (val ys = val xs + val xs) && odd)) = true from by rw [decide_eq_true (by omega)]; rfl]
  clear hC h hle
  go_enter Tryz.func49,Tryz.ntmps49
  go_wp2_with fail
  refine (Uh HK1).mono ?_
  rintro _ w1 ⟨aS,mS,cS,rfl,ss,nS,b1⟩
  have KC:=ncmp_any al aS ml cl mS cS xs (limbs (val ys - val xs)) w1 ((Uh HX).below b1) ss ox (limbs_rep _).ok
  rw [Uh HCV] at KC
  have HKC:=Hd KC
  have HB1:=Hd b1
  clear KC ss nS b1 HK1
  go_wp2_with fail
  refine (sure_any _ _ _).mono ?_
  rintro _ _ ⟨rfl,hw⟩
  obtain rfl:=hw.symm
  clear hw
  go_wp2_with fail
  refine (Uh HKC).mono ?_
  rintro _ w3 ⟨rfl,jj,hw3⟩
  have HB3:=Hd (show Below w.heap.size w w3 from by rw [hw3]; exact bel_drewN (Uh HB1) jj)
  clear hw3 HKC HB1
  go_wp2_with fail
  go_ret
  exact ⟨rfl,Uh HB3⟩
set_option maxRecDepth 100000 in
set_option maxHeartbeats 16000000 in
theorem wnearest_any (a1 a2:Option Addr) (n1 c1 n2 c2:Nat) (xs ys:List Nat) (w:World) (h1:Sl w a1 n1 c1 xs) (nx:a1 = none → c1 = 0) (h2:Sl w a2 n2 c2 ys) (ox:Ok xs) (oy:Ok ys) (kx:Norm xs) (ky:Norm ys) (ey:ys ≠ []) (hb1:n1 ≤ 1000000) (hb2:n2 ≤ 1000000) :
  Calls Tryz.prog 137 #[.slice a1 n1 c1,.slice a2 n2 c2] w fun e w' => NewL w w' (rdQ (val xs) (val ys)) e:=by
 have KD:=wdiv_any a1 a2 n1 c1 n2 c2 xs ys w h1 nx h2 ox oy kx ky ey (by omega) (by omega)
 have yp:0 < val ys:=Nat.pos_of_ne_zero (val_ne ky ey)
 have HLQ:=Hd (show (limbs (val xs / val ys)).length ≤ 1000000 from by have h:=limbs_mono (Nat.div_le_self (val xs) (val ys)); rw [limbs_of ox kx,h1.len] at h; omega)
 have HLM:=Hd (show (limbs (val xs % val ys)).length ≤ 1000000 from by have h:=limbs_mono (Nat.le_of_lt (Nat.mod_lt (val xs) yp)); rw [limbs_of oy ky,h2.len] at h; omega)
 have HLS:=Hd (add_len (k:=1000000) (Uh HLM) (Uh HLM))
 have HY:=Hd h2
 have HNY:=Hd ky
 obtain ⟨X,hX⟩:∃ X,val xs = X:=⟨_,rfl⟩
 obtain ⟨Y,hY⟩:∃ Y,val ys = Y:=⟨_,rfl⟩
 rw [hX,hY] at KD HLQ HLM HLS ⊢
 obtain ⟨Q,hQ⟩:∃ Q,X / Y = Q:=⟨_,rfl⟩
 obtain ⟨M,hM⟩:∃ M,X % Y = M:=⟨_,rfl⟩
 unfold rdQ
 rw [hQ,hM]
 rw [hQ,hM] at KD
 rw [hQ] at HLQ
 rw [hM] at HLM HLS
 have HKD:=Hd KD
 have HVY:=Hd hY
 clear KD h1 h2 nx kx ky ey yp hX hY hQ hM
 rcases Nat.lt_trichotomy (M + M) Y with h | h | h
 ·have HCV:=Hd (cmpN_lt h)
  rw [if_neg (by omega)]
  clear h
  go_enter Tryz.func137,Tryz.ntmps137
  go_wp2_with fail
  refine (Uh HKD).mono ?_
  rintro _ w1 ⟨aq,mq,cq,ar,mr,cr,rfl,⟨sq,nq,zq⟩,⟨sr,nr,zr⟩,b1⟩
  have KA:=waddw_any ar ar mr cr mr cr (limbs M) (limbs M) w1 sr sr (limbs_ok _) (limbs_ok _) (by have:=sr.len; have:=Uh HLM; omega) (by have:=sr.len; have:=Uh HLM; omega)
  rw [limbs_v] at KA
  have HKA:=Hd KA
  have SQ:=Hd (And.intro sq (And.intro nq zq))
  have HB1:=Hd b1
  clear KA sq nq zq sr nr zr b1 HKD
  go_wp2_with fail
  refine (Uh HKA).mono ?_
  rintro _ w2 ⟨aS,mS,cS,rfl,ss,ns,zs,b2⟩
  have KC:=wcmp_any aS a2 mS cS n2 c2 (limbs (M + M)) ys w2 ss ((Uh HY).below ((Uh HB1).trans (b2.mono (Uh HB1).size))) (limbs_ok _) oy (limbs_norm _) (Uh HNY) (by have:=ss.len; have:=Uh HLS; omega) (by omega)
  rw [limbs_v,Uh HVY,Uh HCV] at KC
  have HKC:=Hd KC
  have SQ:=Hd (And.intro ((Uh SQ).1.below b2) (Uh SQ).2)
  have HB2:=Hd ((Uh HB1).trans (b2.mono (Uh HB1).size))
  clear KC ss ns zs b2 HKA HB1
  go_wp2_with fail
  refine (Uh HKC).mono ?_
  rintro _ w3 ⟨rfl,jj,hw3⟩
  have b3:Below w2.heap.size w2 w3:=by rw [hw3]; exact bel_drewN (Below.refl _ _) jj
  have SQ:=Hd (And.intro ((Uh SQ).1.below b3) (Uh SQ).2)
  have HB3:=Hd ((Uh HB2).trans (b3.mono (Uh HB2).size))
  clear hw3 b3 HKC HB2
  go_wp2_with fail
  go_ret
  exact ⟨aq,mq,cq,rfl,(Uh SQ).1,(Uh SQ).2.1,(Uh SQ).2.2,Uh HB3⟩
 ·have HCV:=Hd (show cmpN (M + M) Y = 0 from by rw [h]; simp [cmpN])
  by_cases hb:Q % 2 = 1
  ·have HBT:=Hd (show bitN Q 0 = 1 from by unfold bitN; simp; exact hb)
   rw [if_pos (Or.inr ⟨h.symm,hb⟩)]
   clear h hb
   go_enter Tryz.func137,Tryz.ntmps137
   go_wp2_with fail
   refine (Uh HKD).mono ?_
   rintro _ w1 ⟨aq,mq,cq,ar,mr,cr,rfl,⟨sq,nq,zq⟩,⟨sr,nr,zr⟩,b1⟩
   have KA:=waddw_any ar ar mr cr mr cr (limbs M) (limbs M) w1 sr sr (limbs_ok _) (limbs_ok _) (by have:=sr.len; have:=Uh HLM; omega) (by have:=sr.len; have:=Uh HLM; omega)
   rw [limbs_v] at KA
   have HKA:=Hd KA
   have SQ:=Hd (And.intro sq (And.intro nq zq))
   have HB1:=Hd b1
   clear KA sq nq zq sr nr zr b1 HKD
   go_wp2_with fail
   refine (Uh HKA).mono ?_
   rintro _ w2 ⟨aS,mS,cS,rfl,ss,ns,zs,b2⟩
   have KC:=wcmp_any aS a2 mS cS n2 c2 (limbs (M + M)) ys w2 ss ((Uh HY).below ((Uh HB1).trans (b2.mono (Uh HB1).size))) (limbs_ok _) oy (limbs_norm _) (Uh HNY) (by have:=ss.len; have:=Uh HLS; omega) (by omega)
   rw [limbs_v,Uh HVY,Uh HCV] at KC
   have HKC:=Hd KC
   have SQ:=Hd (And.intro ((Uh SQ).1.below b2) (Uh SQ).2)
   have HB2:=Hd ((Uh HB1).trans (b2.mono (Uh HB1).size))
   clear KC ss ns zs b2 HKA HB1
   go_wp2_with fail
   refine (Uh HKC).mono ?_
   rintro _ w3 ⟨rfl,jj,hw3⟩
   have b3:Below w2.heap.size w2 w3:=by rw [hw3]; exact bel_drewN (Below.refl _ _) jj
   have SQ:=Hd (And.intro ((Uh SQ).1.below b3) (Uh SQ).2)
   have HB3:=Hd ((Uh HB2).trans (b3.mono (Uh HB2).size))
   clear hw3 b3 HKC HB2
   have KB:=wbit_any aq mq cq (limbs Q) w3 0 (Uh SQ).1 (limbs_ok _) (by have:=(Uh SQ).1.len; have:=Uh HLQ; omega) (by omega)
   rw [limbs_v,Uh HBT] at KB
   have HKB:=Hd KB
   clear KB
   go_wp2_with fail
   refine (Uh HKB).mono ?_
   rintro _ w4 ⟨rfl,hw4⟩
   obtain rfl:=hw4.symm
   clear hw4 HKB
   obtain ⟨wc,hwc⟩:∃ x,w3.alloc (.cells #[.int .u32 1] 33) = x:=⟨_,rfl⟩
   have hbc:Below w3.heap.size w3 wc:=by rw [← hwc]; exact bAl
   have hs1:Sl wc (some ⟨w3.heap.size,0,none⟩) 1 1 [1]:=by rw [← hwc]; exact one_sl w3 1 33
   have KA:=waddw_any aq (some ⟨w3.heap.size,0,none⟩) mq cq 1 1 (limbs Q) [1] wc ((Uh SQ).1.below hbc) hs1 (limbs_ok _) ok_is1 (by have:=(Uh SQ).1.len; have:=Uh HLQ; omega) (by decide)
   rw [limbs_v,show val [1] = 1 from by decide] at KA
   have HKA:=Hd KA
   have HBC:=Hd ((Uh HB3).trans (hbc.mono (Uh HB3).size))
   clear KA hbc hs1 SQ
   go_wp2_with fail
   refine (Uh HKA).mono ?_
   rintro _ w5 ⟨az,mz,cz,rfl,sz,nz,zz,b5⟩
   have HF:=Hd (And.intro sz (And.intro nz (And.intro zz b5)))
   clear sz nz zz b5 HKA
   go_wp2_with fail
   go_ret
   obtain ⟨sz,nz,zz,b5⟩:=Uh HF
   have hsz:=(Uh HBC).size
   exact ⟨az,mz,cz,rfl,sz,(fun p hp => Nat.le_trans hsz (nz p hp)),zz,(Uh HBC).trans (b5.mono hsz)⟩
  ·have HBT:=Hd (show bitN Q 0 = 0 from by unfold bitN; simp; omega)
   rw [if_neg (by omega)]
   clear h hb
   go_enter Tryz.func137,Tryz.ntmps137
   go_wp2_with fail
   refine (Uh HKD).mono ?_
   rintro _ w1 ⟨aq,mq,cq,ar,mr,cr,rfl,⟨sq,nq,zq⟩,⟨sr,nr,zr⟩,b1⟩
   have KA:=waddw_any ar ar mr cr mr cr (limbs M) (limbs M) w1 sr sr (limbs_ok _) (limbs_ok _) (by have:=sr.len; have:=Uh HLM; omega) (by have:=sr.len; have:=Uh HLM; omega)
   rw [limbs_v] at KA
   have HKA:=Hd KA
   have SQ:=Hd (And.intro sq (And.intro nq zq))
   have HB1:=Hd b1
   clear KA sq nq zq sr nr zr b1 HKD
   go_wp2_with fail
   refine (Uh HKA).mono ?_
   rintro _ w2 ⟨aS,mS,cS,rfl,ss,ns,zs,b2⟩
   have KC:=wcmp_any aS a2 mS cS n2 c2 (limbs (M + M)) ys w2 ss ((Uh HY).below ((Uh HB1).trans (b2.mono (Uh HB1).size))) (limbs_ok _) oy (limbs_norm _) (Uh HNY) (by have:=ss.len; have:=Uh HLS; omega) (by omega)
   rw [limbs_v,Uh HVY,Uh HCV] at KC
   have HKC:=Hd KC
   have SQ:=Hd (And.intro ((Uh SQ).1.below b2) (Uh SQ).2)
   have HB2:=Hd ((Uh HB1).trans (b2.mono (Uh HB1).size))
   clear KC ss ns zs b2 HKA HB1
   go_wp2_with fail
   refine (Uh HKC).mono ?_
   rintro _ w3 ⟨rfl,jj,hw3⟩
   have b3:Below w2.heap.size w2 w3:=by rw [hw3]; exact bel_drewN (Below.refl _ _) jj
   have SQ:=Hd (And.intro ((Uh SQ).1.below b3) (Uh SQ).2)
   have HB3:=Hd ((Uh HB2).trans (b3.mono (Uh HB2).size))
   clear hw3 b3 HKC HB2
   have KB:=wbit_any aq mq cq (limbs Q) w3 0 (Uh SQ).1 (limbs_ok _) (by have:=(Uh SQ).1.len; have:=Uh HLQ; omega) (by omega)
   rw [limbs_v,Uh HBT] at KB
   have HKB:=Hd KB
   clear KB
   go_wp2_with fail
   refine (Uh HKB).mono ?_
   rintro _ w4 ⟨rfl,hw4⟩
   obtain rfl:=hw4.symm
   clear hw4 HKB
   go_wp2_with fail
   go_ret
   exact ⟨aq,mq,cq,rfl,(Uh SQ).1,(Uh SQ).2.1,(Uh SQ).2.2,Uh HB3⟩
 ·have HCV:=Hd (show cmpN (M + M) Y = 1 from by unfold cmpN; rw [if_neg (by omega),if_neg (by omega)])
  rw [if_pos (Or.inl h)]
  clear h
  go_enter Tryz.func137,Tryz.ntmps137
  go_wp2_with fail
  refine (Uh HKD).mono ?_
  rintro _ w1 ⟨aq,mq,cq,ar,mr,cr,rfl,⟨sq,nq,zq⟩,⟨sr,nr,zr⟩,b1⟩
  have KA:=waddw_any ar ar mr cr mr cr (limbs M) (limbs M) w1 sr sr (limbs_ok _) (limbs_ok _) (by have:=sr.len; have:=Uh HLM; omega) (by have:=sr.len; have:=Uh HLM; omega)
  rw [limbs_v] at KA
  have HKA:=Hd KA
  have SQ:=Hd (And.intro sq (And.intro nq zq))
  have HB1:=Hd b1
  clear KA sq nq zq sr nr zr b1 HKD
  go_wp2_with fail
  refine (Uh HKA).mono ?_
  rintro _ w2 ⟨aS,mS,cS,rfl,ss,ns,zs,b2⟩
  have KC:=wcmp_any aS a2 mS cS n2 c2 (limbs (M + M)) ys w2 ss ((Uh HY).below ((Uh HB1).trans (b2.mono (Uh HB1).size))) (limbs_ok _) oy (limbs_norm _) (Uh HNY) (by have:=ss.len; have:=Uh HLS; omega) (by omega)
  rw [limbs_v,Uh HVY,Uh HCV] at KC
  have HKC:=Hd KC
  have SQ:=Hd (And.intro ((Uh SQ).1.below b2) (Uh SQ).2)
  have HB2:=Hd ((Uh HB1).trans (b2.mono (Uh HB1).size))
  clear KC ss ns zs b2 HKA HB1
  go_wp2_with fail
  refine (Uh HKC).mono ?_
  rintro _ w3 ⟨rfl,jj,hw3⟩
  have b3:Below w2.heap.size w2 w3:=by rw [hw3]; exact bel_drewN (Below.refl _ _) jj
  have SQ:=Hd (And.intro ((Uh SQ).1.below b3) (Uh SQ).2)
  have HB3:=Hd ((Uh HB2).trans (b3.mono (Uh HB2).size))
  clear hw3 b3 HKC HB2
  obtain ⟨wc,hwc⟩:∃ x,w3.alloc (.cells #[.int .u32 1] 33) = x:=⟨_,rfl⟩
  have hbc:Below w3.heap.size w3 wc:=by rw [← hwc]; exact bAl
  have hs1:Sl wc (some ⟨w3.heap.size,0,none⟩) 1 1 [1]:=by rw [← hwc]; exact one_sl w3 1 33
  have KA:=waddw_any aq (some ⟨w3.heap.size,0,none⟩) mq cq 1 1 (limbs Q) [1] wc ((Uh SQ).1.below hbc) hs1 (limbs_ok _) ok_is1 (by have:=(Uh SQ).1.len; have:=Uh HLQ; omega) (by decide)
  rw [limbs_v,show val [1] = 1 from by decide] at KA
  have HKA:=Hd KA
  have HBC:=Hd ((Uh HB3).trans (hbc.mono (Uh HB3).size))
  clear KA hbc hs1 SQ
  go_wp2_with fail
  refine (Uh HKA).mono ?_
  rintro _ w5 ⟨az,mz,cz,rfl,sz,nz,zz,b5⟩
  have HF:=Hd (And.intro sz (And.intro nz (And.intro zz b5)))
  clear sz nz zz b5 HKA
  go_wp2_with fail
  go_ret
  obtain ⟨sz,nz,zz,b5⟩:=Uh HF
  have hsz:=(Uh HBC).size
  exact ⟨az,mz,cz,rfl,sz,(fun p hp => Nat.le_trans hsz (nz p hp)),zz,(Uh HBC).trans (b5.mono hsz)⟩
def FloorF (g:Bool) (x y:List Nat):(Bool × List Nat × List Nat) × Int:=if MayR g x y then (((g && decide (flQ g (val x) (val y) ≠ 0)),limbs (flQ g (val x) (val y)),[1]),0) else ((false,[],[]),40)

set_option maxHeartbeats 8000000 in
set_option maxRecDepth 100000 in
theorem ratFloor_any (g:Bool) (a b:Option Addr) (n c m d:Nat) (x y:List Nat) (w:World) (hx:Sl w a n c x) (hy:Sl w b m d y) (ox:Ok x) (oy:Ok y) (hT:Tab64 w) :
  Calls Tryz.prog 9 #[ratV g a n c b m d] w fun e w' => ResR w w' (FloorF g x y).1.1 (FloorF g x y).1.2.1 (FloorF g x y).1.2.2 (FloorF g x y).2 e:=by
 have bx:=Box.made w g a n c b m d
 obtain ⟨wa,hwa⟩:∃ wa,ratBox w g a n c b m d = wa:=⟨_,rfl⟩
 rw [hwa] at bx
 obtain ⟨wb,hwb⟩:∃ wb,wa.alloc (.cells #[.bool false,.slice none 0 0,.slice none 0 0] 25) = wb:=⟨_,rfl⟩
 have hba:Below w.heap.size w wa:=by rw [← hwa]; exact bAl
 have hbb:Below wa.heap.size wa wb:=by rw [← hwb]; exact bAl
 have hO:Out wb wa.heap.size:=by rw [← hwb]; exact Out.made wa
 have hX:=bx.keep hbb
 have hB:=hba.trans (hbb.mono hba.size)
 have hlt:=bx.lt
 have d0:=hX.d0
 have d1:=hX.d1
 have d2:=hX.d2
 unfold ratBox at hwa
 have KM:=ratMay_any g a b n c m d x y wb (hx.below hB) (hy.below hB) ox oy (hT.below hB)
 have HX:=Hd (And.intro hX (And.intro hO hB))
 have HS:=Hd (And.intro hx hy)
 obtain ⟨RR,hRR⟩:∃ r,FloorF g x y = r:=⟨_,rfl⟩
 rw [hRR]
 have HRR:=Hd hRR
 clear bx hX hO hB hba hbb hx hy hT hRR
 cases hm:MayR g x y
 ·rw [hm] at KM
  have HKM:=Hd KM
  have HR:=Hd (show RR = ((false,[],[]),40) from by rw [← Uh HRR]; unfold FloorF; rw [hm]; rfl)
  unfold ratV at HKM ⊢
  clear KM hm HRR
  go_enter Tryz.func9,Tryz.ntmps9
  go_wp2_with fail
  refine (Uh HKM).mono ?_
  rintro _ w1 ⟨rfl,b1⟩
  have hO1:=(Uh HX).2.1.keep b1
  obtain ⟨x0,q0⟩:=hO1.cells 0 (by decide)
  obtain ⟨x1,q1⟩:=hO1.cells 1 (by decide)
  obtain ⟨x2,q2⟩:=hO1.cells 2 (by decide)
  have r0:=hO1.fz 0 (by decide)
  have r1:=hO1.fz 1 (by decide)
  have r2:=hO1.fz 2 (by decide)
  have H4:=Hd (three_set w1 wa.heap.size (.bool false) (.slice none 0 0) (.slice none 0 0) hO1.cells)
  have HB:=Hd ((Uh HX).2.2.trans (b1.mono (Uh HX).2.2.size))
  clear hO1 b1 HKM
  go_wp2_with fail
  obtain ⟨p0,p1,p2,c4⟩:=Uh H4
  generalize ((w1.setCell ⟨wa.heap.size,0,none⟩ (.bool false)).setCell ⟨wa.heap.size,1,none⟩ (.slice none 0 0)).setCell ⟨wa.heap.size,2,none⟩ (.slice none 0 0) = wf at *
  refine bodyPost_ret (by simp [results,Tryz.results9,go_sem,p0,p1,p2]; try rfl) rfl ?_
  rw [Uh HR]
  exact ⟨_,rfl,none,0,0,none,0,0,rfl,sl_nil _,sl_nil _,newAt_nil _,newAt_nil _,(Uh HB).trans (c4.below (Uh HB).size (fun k hk => by omega))⟩
 ·rw [hm] at KM
  obtain ⟨kx,ky,ey,_,_⟩:=MayR.parts hm
  have HKM:=Hd KM
  have HM:=Hd (And.intro kx (And.intro ky ey))
  have HR:=Hd (show RR = (((g && decide (flQ g (val x) (val y) ≠ 0)),limbs (flQ g (val x) (val y)),[1]),0) from by rw [← Uh HRR]; unfold FloorF; rw [if_pos hm])
  unfold ratV at HKM ⊢
  clear KM hm HRR kx ky ey
  go_enter Tryz.func9,Tryz.ntmps9
  go_wp2_with fail
  refine (Uh HKM).mono ?_
  rintro _ w1 ⟨rfl,b1⟩
  have hB1:=(Uh HX).2.2.trans (b1.mono (Uh HX).2.2.size)
  have hX1:=(Uh HX).1.keep b1
  have e0:=hX1.d0
  have e1:=hX1.d1
  have e2:=hX1.d2
  have K:=ratfloor_any g a b n c m d x y w1 ((Uh HS).1.below hB1) ((Uh HS).2.below hB1) ox oy (Uh HM).1 (Uh HM).2.1 (Uh HM).2.2
  unfold ratV at K
  have HK:=Hd K
  have HY:=Hd (And.intro ((Uh HX).2.1.keep b1) hB1)
  clear b1 hB1 hX1 K HKM HX d0 d1 d2
  go_wp2_with fail
  refine (Uh HK).mono ?_
  rintro _ w2 ⟨aq,nq,cq,bq,mq,dq,al,ml,cl,rfl,sq,tq,_,nQ,nT,b2⟩
  unfold ratV
  obtain ⟨SG,hSG⟩:∃ SG,(g && decide (flQ g (val x) (val y) ≠ 0)) = SG:=⟨_,rfl⟩
  rw [hSG]
  rw [hSG] at HR
  obtain ⟨w3,hw3⟩:∃ z,w2.alloc (.cells #[.bool SG,.slice aq nq cq,.slice bq mq dq] 25) = z:=⟨_,rfl⟩
  have b3:Below w2.heap.size w2 w3:=by rw [← hw3]; exact bAl
  have u0:w3.cell? ⟨w2.heap.size,0,none⟩ = some (.bool SG):=by rw [← hw3]; simp
  have u1:w3.cell? ⟨w2.heap.size,1,none⟩ = some (.slice aq nq cq):=by rw [← hw3]; simp
  have u2:w3.cell? ⟨w2.heap.size,2,none⟩ = some (.slice bq mq dq):=by rw [← hw3]; simp
  have b13:=b2.trans (b3.mono b2.size)
  have hO3:=(Uh HY).1.keep b13
  have hlo:=(Uh HY).1.lt
  obtain ⟨i0,o0⟩:=hO3.cells 0 (by decide)
  obtain ⟨i1,o1⟩:=hO3.cells 1 (by decide)
  obtain ⟨i2,o2⟩:=hO3.cells 2 (by decide)
  have r0:=hO3.fz 0 (by decide)
  have r1:=hO3.fz 1 (by decide)
  have r2:=hO3.fz 2 (by decide)
  have H4:=Hd (three_set w3 wa.heap.size (.bool SG) (.slice aq nq cq) (.slice bq mq dq) hO3.cells)
  have hsz:=(Uh HY).2.size
  have HZ:=Hd (And.intro (sq.below b3) (And.intro (tq.below b3) (And.intro (fun p hp => by have h1:=nQ p hp; omega:∀ p,aq = some p → p.block ≠ wa.heap.size) (And.intro (fun p hp => by have h1:=nT p hp; omega:∀ p,bq = some p → p.block ≠ wa.heap.size) (And.intro (fun p hp => by have h1:=nQ p hp; omega:NewAt w.heap.size aq) (And.intro (fun p hp => by have h1:=nT p hp; omega:NewAt w.heap.size bq) ((Uh HY).2.trans (b13.mono (Uh HY).2.size))))))))
  clear sq tq nQ nT b2 b3 b13 hO3 hlo hsz HK e0 e1 e2 hSG HY
  go_wp2_with fail
  obtain ⟨t0,t1,t2,c4⟩:=Uh H4
  generalize ((w3.setCell ⟨wa.heap.size,0,none⟩ (.bool SG)).setCell ⟨wa.heap.size,1,none⟩ (.slice aq nq cq)).setCell ⟨wa.heap.size,2,none⟩ (.slice bq mq dq) = wk at *
  refine bodyPost_ret (by simp [results,Tryz.results9,go_sem,t0,t1,t2]; try rfl) rfl ?_
  rw [Uh HR]
  have z:=Uh HZ
  exact ⟨_,rfl,aq,nq,cq,bq,mq,dq,rfl,z.1.chg c4 (fun p hp _ => z.2.2.1 p hp),z.2.1.chg c4 (fun p hp _ => z.2.2.2.1 p hp),z.2.2.2.2.1,z.2.2.2.2.2.1,z.2.2.2.2.2.2.trans (c4.below z.2.2.2.2.2.2.size (fun k hk h => by omega))⟩
theorem flQ_le (g:Bool) {X Y:Nat} (hY:0 < Y):flQ g X Y ≤ X:=by
 unfold flQ
 split
 ·next h =>
  have h2:X % Y ≠ 0:=by simp at h; exact h.2
  exact incr_fit hY h2
 ·exact Nat.div_le_self _ _
theorem flQ_fit (g:Bool) {x y:List Nat} (kx:MayL x = true) (ky:MayL y = true) (ox:Ok x) (oy:Ok y) (ey:y ≠ []):bigN (flQ g (val x) (val y)) = false:=by
 have:=MayL.len (may_small kx ox (flQ_le g (X:=val x) (val_pos_of_may ky ey)))
 unfold bigN
 simp
 omega

set_option maxRecDepth 100000 in
set_option maxHeartbeats 16000000 in
theorem wFloor_any (g1:Bool) (a1 b1:Option Addr) (n1 c1 m1 d1:Nat) (x1 y1:List Nat) (w:World) (hx1:Sl w a1 n1 c1 x1) (hy1:Sl w b1 m1 d1 y1) (ox1:Ok x1) (oy1:Ok y1) (nx:a1 = none → c1 = 0) :
  Calls Tryz.prog 89 #[ratV g1 a1 n1 c1 b1 m1 d1] w fun e w' => ResZ w w' (FloorF g1 x1 y1) e:=by
 obtain ⟨⟨⟨SG,LN,LD⟩,ER⟩,hFF⟩:∃ r,FloorF g1 x1 y1 = r:=⟨_,rfl⟩
 rw [hFF]
 unfold ResZ
 dsimp only
 have bx:=Box.made w g1 a1 n1 c1 b1 m1 d1
 obtain ⟨wa,hwa⟩:∃ wa,ratBox w g1 a1 n1 c1 b1 m1 d1 = wa:=⟨_,rfl⟩
 rw [hwa] at bx
 unfold ratBox at hwa
 have hba:=bx.bel
 obtain ⟨wo,hwo⟩:∃ x,wa.alloc (.cells #[.bool false,.slice none 0 0,.slice none 0 0] 25) = x:=⟨_,rfl⟩
 have hbo:Below wa.heap.size wa wo:=by rw [← hwo]; exact bAl
 have hO:Out wo wa.heap.size:=by rw [← hwo]; exact Out.made wa
 have bx2:=bx.keep hbo
 have hB:=hba.trans (hbo.mono hba.size)
 have hRw:w.heap.size ≤ wa.heap.size:=hba.size
 have hne1:w.heap.size ≠ wa.heap.size:=by have:=bx.lt; omega
 have hne3:wa.heap.size ≠ w.heap.size:=by have:=bx.lt; omega
 have p0:=bx2.d0
 have p1:=bx2.d1
 have p2:=bx2.d2
 have HRw:=Hd hRw
 have HO:=Hd hO
 have HBo:=Hd hB
 have K1:=wmay_any g1 a1 b1 n1 c1 m1 d1 x1 y1 wo (hx1.below hB) (hy1.below hB) ox1 oy1
 cases k1:MayR g1 x1 y1
 ·rw [k1] at K1
  have h40:=hFF.symm.trans (show FloorF g1 x1 y1 = ((false,[],[]),40) from by unfold FloorF; rw [k1]; rfl)
  cases h40
  clear hFF
  have HK1:=Hd K1
  clear K1 hx1 hy1 bx bx2 hba hbo hB hO
  unfold ratV at HK1 ⊢
  go_enter Tryz.func89,Tryz.ntmps89
  go_wp2_with fail
  refine (Uh HK1).mono ?_
  rintro _ w3 ⟨rfl,b3⟩
  have HO3:=Hd ((Uh HO).keep b3)
  have HB3:=Hd ((Uh HBo).trans (b3.mono (Uh HBo).size))
  clear b3 HK1 HO HBo
  have hO3:=Uh HO3
  obtain ⟨x0,q0⟩:=hO3.cells 0 (by decide)
  obtain ⟨x1',q1⟩:=hO3.cells 1 (by decide)
  obtain ⟨x2',q2⟩:=hO3.cells 2 (by decide)
  have r0:=hO3.fz 0 (by decide)
  have r1:=hO3.fz 1 (by decide)
  have r2:=hO3.fz 2 (by decide)
  have H4:=Hd (three_set w3 wa.heap.size (.bool false) (.slice none 0 0) (.slice none 0 0) hO3.cells)
  clear hO3
  go_wp2_with fail
  obtain ⟨p0,p1,p2,c4⟩:=Uh H4
  generalize ((w3.setCell ⟨wa.heap.size,0,none⟩ (.bool false)).setCell ⟨wa.heap.size,1,none⟩ (.slice none 0 0)).setCell ⟨wa.heap.size,2,none⟩ (.slice none 0 0) = wf at *
  refine bodyPost_ret (by simp [results,Tryz.results89,go_sem,p0,p1,p2]; try rfl) rfl ?_
  exact ⟨_,rfl,newRz_of (fun _ => rfl) (fun _ => rfl) (Uh HRw) (Uh HO3).lt (Uh HB3) (sl_nil _) (newAt_nil _) (sl_nil _) (newAt_nil _) c4 false⟩
 ·rw [k1] at K1
  obtain ⟨kx1,ky1,ey1,_,l1⟩:=MayR.parts k1
  have s1:n1 ≤ 2048:=by have:=hx1.len; have:=MayL.len kx1; omega
  have s2:m1 ≤ 2048:=by have:=hy1.len; have:=MayL.len ky1; omega
  have HR:=Hd ((lowF_whole (g:=g1) (flQ_fit g1 kx1 ky1 ox1 oy1 ey1)).trans ((show FloorF g1 x1 y1 = ((g1 && decide (flQ g1 (val x1) (val y1) ≠ 0),limbs (flQ g1 (val x1) (val y1)),[1]),0) from by unfold FloorF; rw [if_pos k1]).symm.trans hFF))
  have HQF:=Hd (flQ_fit g1 kx1 ky1 ox1 oy1 ey1)
  have HKD:=Hd (fun (W:World) (hb:Below wo.heap.size wo W) => wdiv_any a1 b1 n1 c1 m1 d1 x1 y1 W ((hx1.below hB).below hb) nx ((hy1.below hB).below hb) ox1 oy1 (MayL.norm kx1) (MayL.norm ky1) ey1 (by omega) (by omega))
  have HLQ:=Hd (MayL.len (may_div kx1 ox1 (val y1)))
  obtain ⟨X,hX⟩:∃ X,val x1 = X:=⟨_,rfl⟩
  obtain ⟨Y,hY⟩:∃ Y,val y1 = Y:=⟨_,rfl⟩
  rw [hX,hY] at HR HKD HLQ HQF
  have HK1:=Hd K1
  clear K1 hx1 hy1 bx bx2 hba hbo hB hO nx kx1 ky1 ey1 l1 k1 hFF hX hY
  unfold ratV at HK1 ⊢
  cases g1
  ·rw [show flQ false X Y = X / Y from by unfold flQ; rfl] at HR HQF
   go_enter Tryz.func89,Tryz.ntmps89
   go_wp2_with fail
   refine (Uh HK1).mono ?_
   rintro _ w3 ⟨rfl,b3⟩
   have f0:=(ck b3 p0)
   have f1:=(ck b3 p1)
   have f2:=(ck b3 p2)
   have HBL3:=Hd b3
   clear b3 HK1 p0 p1 p2
   go_wp2_with fail
   refine (Uh HKD _ (Uh HBL3)).mono ?_
   rintro _ w4 ⟨aq,mq,cq,ar,mr,cr,rfl,⟨sq,nq,zq⟩,⟨sr,nr,zr⟩,b4⟩
   have h0:=(ck b4 f0)
   have h1:=(ck b4 f1)
   have h2:=(ck b4 f2)
   have HBL4:=Hd ((Uh HBL3).trans (b4.mono (Uh HBL3).size))
   have hlr:(limbs (X % Y)).length = mr:=sr.len
   have SQ:=Hd sq
   clear HKD HBL3 f0 f1 f2 b4 sq nq zq sr nr zr
   clear hlr
   have KW:=wwholeZ false aq mq cq (limbs (X / Y)) w4 (Uh SQ) (limbs_ok _) (limbs_norm _) (by have:=(Uh SQ).len; have:=Uh HLQ; omega) (by rw [limbs_v]; exact Uh HQF)
   rw [limbs_v,Uh HR] at KW
   unfold ResZ at KW
   dsimp only at KW
   have HKW:=Hd KW
   clear KW
   go_wp2_with fail
   refine (Uh HKW).mono ?_
   rintro _ wi ⟨vv,rfl,aN,mN,cN,aD,mD,cD,rfl,zN,zD,sN,sD,nN,nD,bl_i⟩
   unfold ratV
   have HNZ:=Hd (And.intro zN zD)
   have hzz:wa.heap.size + 1 ≤ w4.heap.size:=Nat.le_trans (Uh HO).lt (Uh HBL4).size
   have HS3:=Hd (And.intro sN (And.intro (show NewAt (wa.heap.size + 1) aN from fun x hx => Nat.le_trans hzz (nN x hx)) (And.intro sD (show NewAt (wa.heap.size + 1) aD from fun x hx => Nat.le_trans hzz (nD x hx)))))
   have hbi:=(Uh HBL4).trans (bl_i.mono (Uh HBL4).size)
   have hO3:=(Uh HO).keep hbi
   obtain ⟨x0,q0⟩:=hO3.cells 0 (by decide)
   obtain ⟨x1',q1⟩:=hO3.cells 1 (by decide)
   obtain ⟨x2',q2⟩:=hO3.cells 2 (by decide)
   have r0:=hO3.fz 0 (by decide)
   have r1:=hO3.fz 1 (by decide)
   have r2:=hO3.fz 2 (by decide)
   have HO3:=Hd hO3
   have H4:=Hd (three_set wi wa.heap.size (.bool SG) (.slice aN mN cN) (.slice aD mD cD) hO3.cells)
   have HB3:=Hd ((Uh HBo).trans (hbi.mono (Uh HBo).size))
   clear zN zD sN sD nN nD bl_i hO3 hbi
   go_wp2_with fail
   obtain ⟨t0,t1,t2,c4⟩:=Uh H4
   generalize ((wi.setCell ⟨wa.heap.size,0,none⟩ (.bool SG)).setCell ⟨wa.heap.size,1,none⟩ (.slice aN mN cN)).setCell ⟨wa.heap.size,2,none⟩ (.slice aD mD cD) = wf at *
   refine bodyPost_ret (by simp [results,Tryz.results89,go_sem,t0,t1,t2]; try rfl) rfl ?_
   obtain ⟨sN,nN,sD,nD⟩:=Uh HS3
   exact ⟨_,rfl,newRz_of (Uh HNZ).1 (Uh HNZ).2 (Uh HRw) (Uh HO3).lt (Uh HB3) sN nN sD nD c4 SG⟩
  ·by_cases hz:X % Y = 0
   ·rw [show flQ true X Y = X / Y from by unfold flQ; simp [hz]] at HR HQF
    go_enter Tryz.func89,Tryz.ntmps89
    go_wp2_with fail
    refine (Uh HK1).mono ?_
    rintro _ w3 ⟨rfl,b3⟩
    have f0:=(ck b3 p0)
    have f1:=(ck b3 p1)
    have f2:=(ck b3 p2)
    have HBL3:=Hd b3
    clear b3 HK1 p0 p1 p2
    go_wp2_with fail
    refine (Uh HKD _ (Uh HBL3)).mono ?_
    rintro _ w4 ⟨aq,mq,cq,ar,mr,cr,rfl,⟨sq,nq,zq⟩,⟨sr,nr,zr⟩,b4⟩
    have h0:=(ck b4 f0)
    have h1:=(ck b4 f1)
    have h2:=(ck b4 f2)
    have HBL4:=Hd ((Uh HBL3).trans (b4.mono (Uh HBL3).size))
    have hlr:(limbs (X % Y)).length = mr:=sr.len
    have SQ:=Hd sq
    clear HKD HBL3 f0 f1 f2 b4 sq nq zq sr nr zr
    have hl1:¬ (0:Int) < (mr:Int):=by rw [hz,limbs_zero] at hlr; simp at hlr; omega
    clear hlr hz
    have KW:=wwholeZ true aq mq cq (limbs (X / Y)) w4 (Uh SQ) (limbs_ok _) (limbs_norm _) (by have:=(Uh SQ).len; have:=Uh HLQ; omega) (by rw [limbs_v]; exact Uh HQF)
    rw [limbs_v,Uh HR] at KW
    unfold ResZ at KW
    dsimp only at KW
    have HKW:=Hd KW
    clear KW
    go_wp2_with fail
    refine (Uh HKW).mono ?_
    rintro _ wi ⟨vv,rfl,aN,mN,cN,aD,mD,cD,rfl,zN,zD,sN,sD,nN,nD,bl_i⟩
    unfold ratV
    have HNZ:=Hd (And.intro zN zD)
    have hzz:wa.heap.size + 1 ≤ w4.heap.size:=Nat.le_trans (Uh HO).lt (Uh HBL4).size
    have HS3:=Hd (And.intro sN (And.intro (show NewAt (wa.heap.size + 1) aN from fun x hx => Nat.le_trans hzz (nN x hx)) (And.intro sD (show NewAt (wa.heap.size + 1) aD from fun x hx => Nat.le_trans hzz (nD x hx)))))
    have hbi:=(Uh HBL4).trans (bl_i.mono (Uh HBL4).size)
    have hO3:=(Uh HO).keep hbi
    obtain ⟨x0,q0⟩:=hO3.cells 0 (by decide)
    obtain ⟨x1',q1⟩:=hO3.cells 1 (by decide)
    obtain ⟨x2',q2⟩:=hO3.cells 2 (by decide)
    have r0:=hO3.fz 0 (by decide)
    have r1:=hO3.fz 1 (by decide)
    have r2:=hO3.fz 2 (by decide)
    have HO3:=Hd hO3
    have H4:=Hd (three_set wi wa.heap.size (.bool SG) (.slice aN mN cN) (.slice aD mD cD) hO3.cells)
    have HB3:=Hd ((Uh HBo).trans (hbi.mono (Uh HBo).size))
    clear zN zD sN sD nN nD bl_i hO3 hbi
    go_wp2_with fail
    obtain ⟨t0,t1,t2,c4⟩:=Uh H4
    generalize ((wi.setCell ⟨wa.heap.size,0,none⟩ (.bool SG)).setCell ⟨wa.heap.size,1,none⟩ (.slice aN mN cN)).setCell ⟨wa.heap.size,2,none⟩ (.slice aD mD cD) = wf at *
    refine bodyPost_ret (by simp [results,Tryz.results89,go_sem,t0,t1,t2]; try rfl) rfl ?_
    obtain ⟨sN,nN,sD,nD⟩:=Uh HS3
    exact ⟨_,rfl,newRz_of (Uh HNZ).1 (Uh HNZ).2 (Uh HRw) (Uh HO3).lt (Uh HB3) sN nN sD nD c4 SG⟩
   ·rw [show flQ true X Y = X / Y + 1 from by unfold flQ; simp [hz]] at HR HQF
    go_enter Tryz.func89,Tryz.ntmps89
    go_wp2_with fail
    refine (Uh HK1).mono ?_
    rintro _ w3 ⟨rfl,b3⟩
    have f0:=(ck b3 p0)
    have f1:=(ck b3 p1)
    have f2:=(ck b3 p2)
    have HBL3:=Hd b3
    clear b3 HK1 p0 p1 p2
    go_wp2_with fail
    refine (Uh HKD _ (Uh HBL3)).mono ?_
    rintro _ w4 ⟨aq,mq,cq,ar,mr,cr,rfl,⟨sq,nq,zq⟩,⟨sr,nr,zr⟩,b4⟩
    have h0:=(ck b4 f0)
    have h1:=(ck b4 f1)
    have h2:=(ck b4 f2)
    have HBL4:=Hd ((Uh HBL3).trans (b4.mono (Uh HBL3).size))
    have hlr:(limbs (X % Y)).length = mr:=sr.len
    have SQ:=Hd sq
    clear HKD HBL3 f0 f1 f2 b4 sq nq zq sr nr zr
    have hlp:(0:Int) < (mr:Int):=by
     have:limbs (X % Y) ≠ []:=limbs_ne (by omega)
     have:=List.length_pos_iff.2 this
     omega
    clear hlr hz
    obtain ⟨wc,hwc⟩:∃ x,w4.alloc (.cells #[.int .u32 1] 33) = x:=⟨_,rfl⟩
    have hbc:Below w4.heap.size w4 wc:=by rw [← hwc]; exact bAl
    have hs1:Sl wc (some ⟨w4.heap.size,0,none⟩) 1 1 [1]:=by rw [← hwc]; exact one_sl w4 1 33
    have KA:=waddw_any aq (some ⟨w4.heap.size,0,none⟩) mq cq 1 1 (limbs (X / Y)) [1] wc ((Uh SQ).below hbc) hs1 (limbs_ok _) ok_is1 (by have:=(Uh SQ).len; have:=Uh HLQ; omega) (by decide)
    rw [limbs_v,show val [1] = 1 from by decide] at KA
    have HKA:=Hd KA
    have HBC:=Hd ((Uh HBL4).trans (hbc.mono (Uh HBL4).size))
    have i0:=(ck hbc h0)
    have i1:=(ck hbc h1)
    have i2:=(ck hbc h2)
    clear KA hbc hs1 SQ
    go_wp2_with fail
    refine (Uh HKA).mono ?_
    rintro _ w5 ⟨aq,mq,cq,rfl,sq,nq,zq,b_w5⟩
    have i_0:=(ck b_w5 i0)
    have i_1:=(ck b_w5 i1)
    have i_2:=(ck b_w5 i2)
    have HBL5:=Hd ((Uh HBC).trans (b_w5.mono (Uh HBC).size))
    clear HKA HBC b_w5 h0 h1 h2 i0 i1 i2
    have SQ:=Hd sq
    have HLQ:=Hd (show (limbs (X / Y + 1)).length ≤ 2049 from by have h1:=add_len (k:=2048) (Uh HLQ) (show (limbs 1).length ≤ 2048 by rw [limbs_1]; decide); exact h1)
    clear sq nq zq
    have KW:=wwholeZ true aq mq cq (limbs (X / Y + 1)) w5 (Uh SQ) (limbs_ok _) (limbs_norm _) (by have:=(Uh SQ).len; have:=Uh HLQ; omega) (by rw [limbs_v]; exact Uh HQF)
    rw [limbs_v,Uh HR] at KW
    unfold ResZ at KW
    dsimp only at KW
    have HKW:=Hd KW
    clear KW
    go_wp2_with fail
    refine (Uh HKW).mono ?_
    rintro _ wi ⟨vv,rfl,aN,mN,cN,aD,mD,cD,rfl,zN,zD,sN,sD,nN,nD,bl_i⟩
    unfold ratV
    have HNZ:=Hd (And.intro zN zD)
    have hzz:wa.heap.size + 1 ≤ w5.heap.size:=Nat.le_trans (Uh HO).lt (Uh HBL5).size
    have HS3:=Hd (And.intro sN (And.intro (show NewAt (wa.heap.size + 1) aN from fun x hx => Nat.le_trans hzz (nN x hx)) (And.intro sD (show NewAt (wa.heap.size + 1) aD from fun x hx => Nat.le_trans hzz (nD x hx)))))
    have hbi:=(Uh HBL5).trans (bl_i.mono (Uh HBL5).size)
    have hO3:=(Uh HO).keep hbi
    obtain ⟨x0,q0⟩:=hO3.cells 0 (by decide)
    obtain ⟨x1',q1⟩:=hO3.cells 1 (by decide)
    obtain ⟨x2',q2⟩:=hO3.cells 2 (by decide)
    have r0:=hO3.fz 0 (by decide)
    have r1:=hO3.fz 1 (by decide)
    have r2:=hO3.fz 2 (by decide)
    have HO3:=Hd hO3
    have H4:=Hd (three_set wi wa.heap.size (.bool SG) (.slice aN mN cN) (.slice aD mD cD) hO3.cells)
    have HB3:=Hd ((Uh HBo).trans (hbi.mono (Uh HBo).size))
    clear zN zD sN sD nN nD bl_i hO3 hbi
    go_wp2_with fail
    obtain ⟨t0,t1,t2,c4⟩:=Uh H4
    generalize ((wi.setCell ⟨wa.heap.size,0,none⟩ (.bool SG)).setCell ⟨wa.heap.size,1,none⟩ (.slice aN mN cN)).setCell ⟨wa.heap.size,2,none⟩ (.slice aD mD cD) = wf at *
    refine bodyPost_ret (by simp [results,Tryz.results89,go_sem,t0,t1,t2]; try rfl) rfl ?_
    obtain ⟨sN,nN,sD,nD⟩:=Uh HS3
    exact ⟨_,rfl,newRz_of (Uh HNZ).1 (Uh HNZ).2 (Uh HRw) (Uh HO3).lt (Uh HB3) sN nN sD nD c4 SG⟩
end Go.Proofs.YtmmeiebbnjjijaaGreatDoor
