/- Ws1 -/
import Derived.Test.YtlolnaegfponeaaGreatDoorWre
import Derived.Test.YtlolnaegfponeaaGreatDoorWr9
import Derived.Test.YtlolnaegfponeaaGreatDoorRa5
import Derived.Test.YtlolnaegfponeaaGreatDoorRz2
import Derived.Test.YtlolnaegfponeaaGreatDoorWia
import Derived.Deep.RegionHeld3
import Derived.Test.YtlolnaegfponeaaGreatDoorAdd
import Derived.Test.YtlolnaegfponeaaGreatDoorRl2
import Derived.Test.YtlolnaegfponeaaGreatDoorWr2
import Derived.Test.YtlolnaegfponeaaGreatDoorRd3
import Derived.Test.YtlolnaegfponeaaGreatDoorMul
namespace Go.Proofs.YtlolnaegfponeaaGreatDoor
open Go.RowKit Go.Deep
set_option linter.unusedVariables false
def NewRz (w w':World) (g:Bool) (xs ys:List Nat) (v:Value):Prop:=∃ aN mN cN aD mD cD,v = ratV g aN mN cN aD mD cD ∧ (aN = none → cN = 0) ∧ (aD = none → cD = 0) ∧ Sl w' aN mN cN xs ∧ Sl w' aD mD cD ys ∧ NewAt w.heap.size aN ∧ NewAt w.heap.size aD ∧ Below w.heap.size w w'
theorem NewRz.new {w w':World} {g:Bool} {xs ys:List Nat} {v:Value} (h:NewRz w w' g xs ys v):NewR w w' g xs ys v:=by
 obtain ⟨aN,mN,cN,aD,mD,cD,e,_,_,h1,h2,h3,h4,h5⟩:=h
 exact ⟨aN,mN,cN,aD,mD,cD,e,h1,h2,h3,h4,h5⟩
theorem ok_is1:Ok [1]:=by rw [← limbs_1]; exact limbs_ok 1

def rdQ (X Y:Nat):Nat:=if Y < X % Y + X % Y ∨ (Y = X % Y + X % Y ∧ X / Y % 2 = 1) then X / Y + 1 else X / Y
theorem rdQ_le {X Y:Nat} (hY:0 < Y):rdQ X Y ≤ X:=by
 unfold rdQ
 split
 ·next h =>
  have h2:X % Y ≠ 0:=by omega
  exact incr_fit hY h2
 ·exact Nat.div_le_self _ _
set_option maxRecDepth 100000 in
set_option maxHeartbeats 16000000 in
theorem wnearest_any (a1 a2:Option Addr) (n1 c1 n2 c2:Nat) (xs ys:List Nat) (w:World) (h1:Sl w a1 n1 c1 xs) (nx:a1 = none → c1 = 0) (h2:Sl w a2 n2 c2 ys) (ox:Ok xs) (oy:Ok ys) (kx:Norm xs) (ky:Norm ys) (ey:ys ≠ []) (hb1:n1 ≤ 1000000) (hb2:n2 ≤ 1000000) :
  Calls Tryz.prog 168 #[.slice a1 n1 c1,.slice a2 n2 c2] w fun e w' => NewL w w' (rdQ (val xs) (val ys)) e:=by
 have KD:=wdiv_any a1 a2 n1 c1 n2 c2 xs ys w h1 nx h2 ox oy kx ky ey (by omega) (by omega)
 have yp:0 < val ys:=Nat.pos_of_ne_zero (val_ne ky ey)
 have HLQ:=Hd (show (limbs (val xs / val ys)).length ≤ 1000000 from by have h:=limbs_mono (Nat.div_le_self (val xs) (val ys)); rw [limbs_of ox kx,h1.len] at h; omega)
 have HLM:=Hd (show (limbs (val xs % val ys)).length ≤ 1000000 from by have h:=limbs_mono (Nat.le_of_lt (Nat.mod_lt (val xs) yp)); rw [limbs_of oy ky,h2.len] at h; omega)
 have HLS:=Hd (add_len (k:=1000000) (Uh HLM) (Uh HLM))
 have HY:=Hd h2
 have HNY:=Hd ky
 obtain ⟨X,hX⟩:∃ X,val xs = X:=⟨_,rfl⟩
 obtain ⟨Y,hY⟩:∃ Y,val ys = Y:=⟨_,rfl⟩
 rw [hX,hY] at KD HLQ HLM HLS ⊢
 obtain ⟨Q,hQ⟩:∃ Q,X / Y = Q:=⟨_,rfl⟩
 obtain ⟨M,hM⟩:∃ M,X % Y = M:=⟨_,rfl⟩
 unfold rdQ
 rw [hQ,hM]
 rw [hQ,hM] at KD
 rw [hQ] at HLQ
 rw [hM] at HLM HLS
 have HKD:=Hd KD
 have HVY:=Hd hY
 clear KD h1 h2 nx kx ky ey yp hX hY hQ hM
 rcases Nat.lt_trichotomy (M + M) Y with h | h | h
 ·have HCV:=Hd (cmpN_lt h)
  rw [if_neg (by omega)]
  clear h
  go_enter Tryz.func168,Tryz.ntmps168
  go_wp2_with fail
  refine (Uh HKD).mono ?_
  rintro _ w1 ⟨aq,mq,cq,ar,mr,cr,rfl,⟨sq,nq,zq⟩,⟨sr,nr,zr⟩,b1⟩
  have KA:=waddw_any ar ar mr cr mr cr (limbs M) (limbs M) w1 sr sr (limbs_ok _) (limbs_ok _) (by have:=sr.len; have:=Uh HLM; omega) (by have:=sr.len; have:=Uh HLM; omega)
  rw [limbs_v] at KA
  have HKA:=Hd KA
  have SQ:=Hd (And.intro sq (And.intro nq zq))
  have HB1:=Hd b1
  clear KA sq nq zq sr nr zr b1 HKD
  go_wp2_with fail
  refine (Uh HKA).mono ?_
  rintro _ w2 ⟨aS,mS,cS,rfl,ss,ns,zs,b2⟩
  have KC:=wcmp_any aS a2 mS cS n2 c2 (limbs (M + M)) ys w2 ss ((Uh HY).below ((Uh HB1).trans (b2.mono (Uh HB1).size))) (limbs_ok _) oy (limbs_norm _) (Uh HNY) (by have:=ss.len; have:=Uh HLS; omega) (by omega)
  rw [limbs_v,Uh HVY,Uh HCV] at KC
  have HKC:=Hd KC
  have SQ:=Hd (And.intro ((Uh SQ).1.below b2) (Uh SQ).2)
  have HB2:=Hd ((Uh HB1).trans (b2.mono (Uh HB1).size))
  clear KC ss ns zs b2 HKA HB1
  go_wp2_with fail
  refine (Uh HKC).mono ?_
  rintro _ w3 ⟨rfl,jj,hw3⟩
  have b3:Below w2.heap.size w2 w3:=by rw [hw3]; exact bel_drewN (Below.refl _ _) jj
  have SQ:=Hd (And.intro ((Uh SQ).1.below b3) (Uh SQ).2)
  have HB3:=Hd ((Uh HB2).trans (b3.mono (Uh HB2).size))
  clear hw3 b3 HKC HB2
  go_wp2_with fail
  go_ret
  exact ⟨aq,mq,cq,rfl,(Uh SQ).1,(Uh SQ).2.1,(Uh SQ).2.2,Uh HB3⟩
 ·have HCV:=Hd (show cmpN (M + M) Y = 0 from by rw [h]; simp [cmpN])
  by_cases hb:Q % 2 = 1
  ·have HBT:=Hd (show bitN Q 0 = 1 from by unfold bitN; simp; exact hb)
   rw [if_pos (Or.inr ⟨h.symm,hb⟩)]
   clear h hb
   go_enter Tryz.func168,Tryz.ntmps168
   go_wp2_with fail
   refine (Uh HKD).mono ?_
   rintro _ w1 ⟨aq,mq,cq,ar,mr,cr,rfl,⟨sq,nq,zq⟩,⟨sr,nr,zr⟩,b1⟩
   have KA:=waddw_any ar ar mr cr mr cr (limbs M) (limbs M) w1 sr sr (limbs_ok _) (limbs_ok _) (by have:=sr.len; have:=Uh HLM; omega) (by have:=sr.len; have:=Uh HLM; omega)
   rw [limbs_v] at KA
   have HKA:=Hd KA
   have SQ:=Hd (And.intro sq (And.intro nq zq))
   have HB1:=Hd b1
   clear KA sq nq zq sr nr zr b1 HKD
   go_wp2_with fail
   refine (Uh HKA).mono ?_
   rintro _ w2 ⟨aS,mS,cS,rfl,ss,ns,zs,b2⟩
   have KC:=wcmp_any aS a2 mS cS n2 c2 (limbs (M + M)) ys w2 ss ((Uh HY).below ((Uh HB1).trans (b2.mono (Uh HB1).size))) (limbs_ok _) oy (limbs_norm _) (Uh HNY) (by have:=ss.len; have:=Uh HLS; omega) (by omega)
   rw [limbs_v,Uh HVY,Uh HCV] at KC
   have HKC:=Hd KC
   have SQ:=Hd (And.intro ((Uh SQ).1.below b2) (Uh SQ).2)
   have HB2:=Hd ((Uh HB1).trans (b2.mono (Uh HB1).size))
   clear KC ss ns zs b2 HKA HB1
   go_wp2_with fail
   refine (Uh HKC).mono ?_
   rintro _ w3 ⟨rfl,jj,hw3⟩
   have b3:Below w2.heap.size w2 w3:=by rw [hw3]; exact bel_drewN (Below.refl _ _) jj
   have SQ:=Hd (And.intro ((Uh SQ).1.below b3) (Uh SQ).2)
   have HB3:=Hd ((Uh HB2).trans (b3.mono (Uh HB2).size))
   clear hw3 b3 HKC HB2
   have KB:=wbit_any aq mq cq (limbs Q) w3 0 (Uh SQ).1 (limbs_ok _) (by have:=(Uh SQ).1.len; have:=Uh HLQ; omega) (by omega)
   rw [limbs_v,Uh HBT] at KB
   have HKB:=Hd KB
   clear KB
   go_wp2_with fail
   refine (Uh HKB).mono ?_
   rintro _ w4 ⟨rfl,hw4⟩
   obtain rfl:=hw4.symm
   clear hw4 HKB
   obtain ⟨wc,hwc⟩:∃ x,w3.alloc (.cells #[.int .u32 1] 43) = x:=⟨_,rfl⟩
   have hbc:Below w3.heap.size w3 wc:=by rw [← hwc]; exact bAl
   have hs1:Sl wc (some ⟨w3.heap.size,0,none⟩) 1 1 [1]:=by rw [← hwc]; exact one_sl w3 1 43
   have KA:=waddw_any aq (some ⟨w3.heap.size,0,none⟩) mq cq 1 1 (limbs Q) [1] wc ((Uh SQ).1.below hbc) hs1 (limbs_ok _) ok_is1 (by have:=(Uh SQ).1.len; have:=Uh HLQ; omega) (by decide)
   rw [limbs_v,show val [1] = 1 from by decide] at KA
   have HKA:=Hd KA
   have HBC:=Hd ((Uh HB3).trans (hbc.mono (Uh HB3).size))
   clear KA hbc hs1 SQ
   go_wp2_with fail
   refine (Uh HKA).mono ?_
   rintro _ w5 ⟨az,mz,cz,rfl,sz,nz,zz,b5⟩
   have HF:=Hd (And.intro sz (And.intro nz (And.intro zz b5)))
   clear sz nz zz b5 HKA
   go_wp2_with fail
   go_ret
   obtain ⟨sz,nz,zz,b5⟩:=Uh HF
   have hsz:=(Uh HBC).size
   exact ⟨az,mz,cz,rfl,sz,(fun p hp => Nat.le_trans hsz (nz p hp)),zz,(Uh HBC).trans (b5.mono hsz)⟩
  ·have HBT:=Hd (show bitN Q 0 = 0 from by unfold bitN; simp; omega)
   rw [if_neg (by omega)]
   clear h hb
   go_enter Tryz.func168,Tryz.ntmps168
   go_wp2_with fail
   refine (Uh HKD).mono ?_
   rintro _ w1 ⟨aq,mq,cq,ar,mr,cr,rfl,⟨sq,nq,zq⟩,⟨sr,nr,zr⟩,b1⟩
   have KA:=waddw_any ar ar mr cr mr cr (limbs M) (limbs M) w1 sr sr (limbs_ok _) (limbs_ok _) (by have:=sr.len; have:=Uh HLM; omega) (by have:=sr.len; have:=Uh HLM; omega)
   rw [limbs_v] at KA
   have HKA:=Hd KA
   have SQ:=Hd (And.intro sq (And.intro nq zq))
   have HB1:=Hd b1
   clear KA sq nq zq sr nr zr b1 HKD
   go_wp2_with fail
   refine (Uh HKA).mono ?_
   rintro _ w2 ⟨aS,mS,cS,rfl,ss,ns,zs,b2⟩
   have KC:=wcmp_any aS a2 mS cS n2 c2 (limbs (M + M)) ys w2 ss ((Uh HY).below ((Uh HB1).trans (b2.mono (Uh HB1).size))) (limbs_ok _) oy (limbs_norm _) (Uh HNY) (by have:=ss.len; have:=Uh HLS; omega) (by omega)
   rw [limbs_v,Uh HVY,Uh HCV] at KC
   have HKC:=Hd KC
   have SQ:=Hd (And.intro ((Uh SQ).1.below b2) (Uh SQ).2)
   have HB2:=Hd ((Uh HB1).trans (b2.mono (Uh HB1).size))
   clear KC ss ns zs b2 HKA HB1
   go_wp2_with fail
   refine (Uh HKC).mono ?_
   rintro _ w3 ⟨rfl,jj,hw3⟩
   have b3:Below w2.heap.size w2 w3:=by rw [hw3]; exact bel_drewN (Below.refl _ _) jj
   have SQ:=Hd (And.intro ((Uh SQ).1.below b3) (Uh SQ).2)
   have HB3:=Hd ((Uh HB2).trans (b3.mono (Uh HB2).size))
   clear hw3 b3 HKC HB2
   have KB:=wbit_any aq mq cq (limbs Q) w3 0 (Uh SQ).1 (limbs_ok _) (by have:=(Uh SQ).1.len; have:=Uh HLQ; omega) (by omega)
   rw [limbs_v,Uh HBT] at KB
   have HKB:=Hd KB
   clear KB
   go_wp2_with fail
   refine (Uh HKB).mono ?_
   rintro _ w4 ⟨rfl,hw4⟩
   obtain rfl:=hw4.symm
   clear hw4 HKB
   go_wp2_with fail
   go_ret
   exact ⟨aq,mq,cq,rfl,(Uh SQ).1,(Uh SQ).2.1,(Uh SQ).2.2,Uh HB3⟩
 ·have HCV:=Hd (show cmpN (M + M) Y = 1 from by unfold cmpN; rw [if_neg (by omega),if_neg (by omega)])
  rw [if_pos (Or.inl h)]
  clear h
  go_enter Tryz.func168,Tryz.ntmps168
  go_wp2_with fail
  refine (Uh HKD).mono ?_
  rintro _ w1 ⟨aq,mq,cq,ar,mr,cr,rfl,⟨sq,nq,zq⟩,⟨sr,nr,zr⟩,b1⟩
  have KA:=waddw_any ar ar mr cr mr cr (limbs M) (limbs M) w1 sr sr (limbs_ok _) (limbs_ok _) (by have:=sr.len; have:=Uh HLM; omega) (by have:=sr.len; have:=Uh HLM; omega)
  rw [limbs_v] at KA
  have HKA:=Hd KA
  have SQ:=Hd (And.intro sq (And.intro nq zq))
  have HB1:=Hd b1
  clear KA sq nq zq sr nr zr b1 HKD
  go_wp2_with fail
  refine (Uh HKA).mono ?_
  rintro _ w2 ⟨aS,mS,cS,rfl,ss,ns,zs,b2⟩
  have KC:=wcmp_any aS a2 mS cS n2 c2 (limbs (M + M)) ys w2 ss ((Uh HY).below ((Uh HB1).trans (b2.mono (Uh HB1).size))) (limbs_ok _) oy (limbs_norm _) (Uh HNY) (by have:=ss.len; have:=Uh HLS; omega) (by omega)
  rw [limbs_v,Uh HVY,Uh HCV] at KC
  have HKC:=Hd KC
  have SQ:=Hd (And.intro ((Uh SQ).1.below b2) (Uh SQ).2)
  have HB2:=Hd ((Uh HB1).trans (b2.mono (Uh HB1).size))
  clear KC ss ns zs b2 HKA HB1
  go_wp2_with fail
  refine (Uh HKC).mono ?_
  rintro _ w3 ⟨rfl,jj,hw3⟩
  have b3:Below w2.heap.size w2 w3:=by rw [hw3]; exact bel_drewN (Below.refl _ _) jj
  have SQ:=Hd (And.intro ((Uh SQ).1.below b3) (Uh SQ).2)
  have HB3:=Hd ((Uh HB2).trans (b3.mono (Uh HB2).size))
  clear hw3 b3 HKC HB2
  obtain ⟨wc,hwc⟩:∃ x,w3.alloc (.cells #[.int .u32 1] 43) = x:=⟨_,rfl⟩
  have hbc:Below w3.heap.size w3 wc:=by rw [← hwc]; exact bAl
  have hs1:Sl wc (some ⟨w3.heap.size,0,none⟩) 1 1 [1]:=by rw [← hwc]; exact one_sl w3 1 43
  have KA:=waddw_any aq (some ⟨w3.heap.size,0,none⟩) mq cq 1 1 (limbs Q) [1] wc ((Uh SQ).1.below hbc) hs1 (limbs_ok _) ok_is1 (by have:=(Uh SQ).1.len; have:=Uh HLQ; omega) (by decide)
  rw [limbs_v,show val [1] = 1 from by decide] at KA
  have HKA:=Hd KA
  have HBC:=Hd ((Uh HB3).trans (hbc.mono (Uh HB3).size))
  clear KA hbc hs1 SQ
  go_wp2_with fail
  refine (Uh HKA).mono ?_
  rintro _ w5 ⟨az,mz,cz,rfl,sz,nz,zz,b5⟩
  have HF:=Hd (And.intro sz (And.intro nz (And.intro zz b5)))
  clear sz nz zz b5 HKA
  go_wp2_with fail
  go_ret
  obtain ⟨sz,nz,zz,b5⟩:=Uh HF
  have hsz:=(Uh HBC).size
  exact ⟨az,mz,cz,rfl,sz,(fun p hp => Nat.le_trans hsz (nz p hp)),zz,(Uh HBC).trans (b5.mono hsz)⟩
set_option maxRecDepth 100000 in
set_option maxHeartbeats 8000000 in
theorem wscaled_up (a1 a2:Option Addr) (n1 c1 n2 c2:Nat) (x y:List Nat) (k:Nat) (w:World) (h1:Sl w a1 n1 c1 x) (nx:a1 = none → c1 = 0) (h2:Sl w a2 n2 c2 y) (ox:Ok x) (oy:Ok y) (kx:MayL x = true) (ky:MayL y = true) (ey:y ≠ []) (hk:k ≤ 900000) :
  Calls Tryz.prog 111 #[.slice a1 n1 c1,.slice a2 n2 c2,.int .i64 (k:Nat)] w fun e w' => NewL w w' (rdQ (val x) (val y * 2 ^ k)) e:=by
 have s1:=MayL.len kx
 have s2:=MayL.len ky
 have l1:=h1.len
 have l2:=h2.len
 have yp:0 < val y:=Nat.pos_of_ne_zero (val_ne (MayL.norm ky) ey)
 have hv:limbs (val y) = y:=limbs_val oy (MayL.norm ky)
 have KR:=wraise_any a2 n2 c2 y w k h2 oy (by omega) (by omega)
 have hlen:=limbs_pow_len (val y) k
 rw [hv] at hlen
 have HKR:=Hd KR
 have H1:=Hd h1
 have tk:(0:Int) ≤ (k:Int):=by omega
 have hpos:val y * 2 ^ k ≠ 0:=Nat.ne_of_gt (Nat.mul_pos yp (Nat.two_pow_pos k))
 clear KR h1 h2 hv
 go_enter Tryz.func111,Tryz.ntmps111
 go_wp2_with fail
 refine (Uh HKR).mono ?_
 rintro _ w1 ⟨a3,m3,c3,rfl,s3,n3,z3,b1⟩
 have KN:=wnearest_any a1 a3 n1 c1 m3 c3 x (limbs (val y * 2 ^ k)) w1 ((Uh H1).below b1) nx s3 ox (limbs_ok _) (MayL.norm kx) (limbs_norm _) (by rw [Ne,limbs_eq_nil]; exact hpos) (by omega) (by have:=s3.len; omega)
 rw [limbs_v] at KN
 have HKN:=Hd KN
 have HB1:=Hd b1
 clear KN s3 n3 z3 b1 HKR
 go_wp2_with fail
 refine (Uh HKN).mono ?_
 rintro _ w2 ⟨a4,m4,c4,rfl,s4,n4,z4,b2⟩
 have hz:=(Uh HB1).size
 have HR:=Hd (show NewL w w2 (rdQ (val x) (val y * 2 ^ k)) (.returned (.slice a4 m4 c4)) from ⟨a4,m4,c4,rfl,s4,fun q hq => Nat.le_trans hz (n4 q hq),z4,(Uh HB1).trans (b2.mono hz)⟩)
 clear s4 n4 z4 b2 HKN
 try go_wp2_with fail
 try go_ret
 exact Uh HR

set_option maxRecDepth 100000 in
set_option maxHeartbeats 8000000 in
theorem wscaled_dn (a1 a2:Option Addr) (n1 c1 n2 c2:Nat) (x y:List Nat) (k:Nat) (w:World) (h1:Sl w a1 n1 c1 x) (h2:Sl w a2 n2 c2 y) (ox:Ok x) (oy:Ok y) (kx:MayL x = true) (ky:MayL y = true) (ey:y ≠ []) (hk:k ≤ 900000) (hk0:0 < k) :
  Calls Tryz.prog 111 #[.slice a1 n1 c1,.slice a2 n2 c2,.int .i64 (-(k:Int))] w fun e w' => NewL w w' (rdQ (val x * 2 ^ k) (val y)) e:=by
 have s1:=MayL.len kx
 have s2:=MayL.len ky
 have l1:=h1.len
 have l2:=h2.len
 have hv:limbs (val x) = x:=limbs_val ox (MayL.norm kx)
 have KR:=wraise_any a1 n1 c1 x w k h1 ox (by omega) (by omega)
 have hlen:=limbs_pow_len (val x) k
 rw [hv] at hlen
 have HKR:=Hd KR
 have H2:=Hd h2
 have tk:¬ (0:Int) ≤ -(k:Int):=by omega
 clear KR h1 h2 hv
 go_enter Tryz.func111,Tryz.ntmps111
 go_wp2_with fail
 refine (Uh HKR).mono ?_
 rintro _ w1 ⟨a3,m3,c3,rfl,s3,n3,z3,b1⟩
 have KN:=wnearest_any a3 a2 m3 c3 n2 c2 (limbs (val x * 2 ^ k)) y w1 s3 z3 ((Uh H2).below b1) (limbs_ok _) oy (limbs_norm _) (MayL.norm ky) ey (by have:=s3.len; omega) (by omega)
 rw [limbs_v] at KN
 have HKN:=Hd KN
 have HB1:=Hd b1
 clear KN s3 n3 z3 b1 HKR
 go_wp2_with fail
 refine (Uh HKN).mono ?_
 rintro _ w2 ⟨a4,m4,c4,rfl,s4,n4,z4,b2⟩
 have hz:=(Uh HB1).size
 have HR:=Hd (show NewL w w2 (rdQ (val x * 2 ^ k) (val y)) (.returned (.slice a4 m4 c4)) from ⟨a4,m4,c4,rfl,s4,fun q hq => Nat.le_trans hz (n4 q hq),z4,(Uh HB1).trans (b2.mono hz)⟩)
 clear s4 n4 z4 b2 HKN
 try go_wp2_with fail
 try go_ret
 exact Uh HR
def kB:Nat:=1074
theorem kB_eq:kB = 1074:=rfl
theorem rd_ge {A B N:Nat} (hB:0 < B) (h:N * B ≤ A):N ≤ rdQ A B:=by
 have h1:N ≤ A / B:=(Nat.le_div_iff_mul_le hB).mpr h
 unfold rdQ
 split <;> omega
theorem rd_le {A B N:Nat} (hB:0 < B) (h:A < N * B):rdQ A B ≤ N:=by
 have h1:A / B < N:=(Nat.div_lt_iff_lt_mul hB).mpr h
 unfold rdQ
 split <;> omega
theorem rd_scale {A B c:Nat} (hc:0 < c):rdQ (A * c) (B * c) = rdQ A B:=by
 have e1:A * c / (B * c) = A / B:=Nat.mul_div_mul_right _ _ hc
 have e2:A * c % (B * c) = A % B * c:=Nat.mul_mod_mul_right _ _ _
 have e3:A % B * c + A % B * c = (A % B + A % B) * c:=by rw [Nat.add_mul]
 unfold rdQ
 rw [e1,e2,e3]
 have h1:(B * c < (A % B + A % B) * c) ↔ B < A % B + A % B:=Nat.mul_lt_mul_right hc
 have h2:(B * c = (A % B + A % B) * c) ↔ B = A % B + A % B:=Nat.mul_left_inj (Nat.ne_of_gt hc)
 simp only [h1,h2]
theorem rd_carry {A B M:Nat} (hB:0 < B) (hM:0 < M) (h:A < 2 * M * B) (e:rdQ A B = 2 * M):rdQ A (B * 2) = M:=by
 have h1:A / B < 2 * M:=(Nat.div_lt_iff_lt_mul hB).mpr h
 have hd:=Nat.div_add_mod A B
 have hm:=Nat.mod_lt A hB
 obtain ⟨r,hr⟩:∃ r,A % B = r:=⟨_,rfl⟩
 obtain ⟨Q,hQ⟩:∃ Q,A / B = Q:=⟨_,rfl⟩
 have h2:Q + 1 = 2 * M ∧ B ≤ r + r:=by
  unfold rdQ at e
  rw [hr,hQ] at e
  rw [hQ] at h1
  split at e
  ·next k => omega
  ·next k => omega
 rw [hr,hQ] at hd
 rw [hr] at hm
 obtain ⟨J,rfl⟩:∃ J,M = J + 1:=⟨M - 1,by omega⟩
 have h3:Q = 2 * J + 1:=by omega
 have h4:A = (B * 2) * J + (B + r):=by
  rw [← hd,h3,Nat.mul_add,Nat.mul_one,← Nat.mul_assoc]
  omega
 have h5:A / (B * 2) = J:=by
  rw [h4,Nat.mul_add_div (by omega),Nat.div_eq_of_lt (by omega)]
  rfl
 have h6:A % (B * 2) = B + r:=by
  rw [h4,Nat.mul_add_mod,Nat.mod_eq_of_lt (by omega)]
 unfold rdQ
 rw [h5,h6,if_pos (by omega)]
def rdE (X Y E:Nat):Nat:=rdQ (X * 2 ^ kB) (Y * 2 ^ E)
def flG (p q:Nat):Nat:=p + kB - (q + 53)
def flU (p q X Y:Nat):Nat:=if Y * 2 ^ (53 + flG p q) ≤ X * 2 ^ kB then flG p q + 1 else flG p q
def flN (p q X Y:Nat):Nat:=if 2045 < flU p q X Y then 9218868437227405312 else flU p q X Y * 4503599627370496 + rdE X Y (flU p q X Y)

theorem fl_ypos {q Y:Nat} (hY1:2 ^ q ≤ Y * 2) (E:Nat):0 < Y * 2 ^ E:=by
 have:=Nat.two_pow_pos q
 exact Nat.mul_pos (by omega) (Nat.two_pow_pos E)
theorem two52:(4503599627370496:Nat) = 2 ^ 52:=rfl
theorem two53:(9007199254740992:Nat) = 2 ^ 53:=rfl
theorem fl_above {p q X Y:Nat} (hX1:2 ^ p ≤ X * 2) (hY2:Y < 2 ^ q) {E j:Nat} (h:q + E + j + 1 ≤ p + kB):2 ^ j * (Y * 2 ^ E) ≤ X * 2 ^ kB:=by
 have h1:2 ^ j * (Y * 2 ^ E) * 2 ≤ 2 ^ j * (2 ^ q * 2 ^ E) * 2:=Nat.mul_le_mul_right _ (Nat.mul_le_mul_left _ (Nat.mul_le_mul_right _ (Nat.le_of_lt hY2)))
 have h2:2 ^ j * (2 ^ q * 2 ^ E) * 2 = 2 ^ (q + E + j + 1):=by
  rw [Nat.pow_succ,Nat.pow_add,Nat.pow_add]
  congr 1
  rw [Nat.mul_comm]
 have h3:2 ^ (q + E + j + 1) ≤ 2 ^ (p + kB):=Nat.pow_le_pow_right (by decide) h
 have h4:2 ^ (p + kB) ≤ X * 2 ^ kB * 2:=by
  rw [Nat.pow_add,Nat.mul_right_comm]
  exact Nat.mul_le_mul_right _ hX1
 omega
theorem fl_under {p q X Y:Nat} (hX2:X < 2 ^ p) (hY1:2 ^ q ≤ Y * 2) {E j:Nat} (h:p + kB + 1 ≤ q + E + j):X * 2 ^ kB < 2 ^ j * (Y * 2 ^ E):=by
 have h1:X * 2 ^ kB * 2 < 2 ^ p * 2 ^ kB * 2:=Nat.mul_lt_mul_of_pos_right (Nat.mul_lt_mul_of_pos_right hX2 (Nat.two_pow_pos _)) (by decide)
 have h2:2 ^ p * 2 ^ kB * 2 = 2 ^ (p + kB + 1):=by rw [Nat.pow_succ,Nat.pow_add]
 have h3:2 ^ (p + kB + 1) ≤ 2 ^ (q + E + j):=Nat.pow_le_pow_right (by decide) h
 have h4:2 ^ (q + E + j) ≤ 2 ^ j * (Y * 2 ^ E) * 2:=by
  rw [Nat.pow_add,Nat.pow_add]
  have:2 ^ j * (Y * 2 ^ E) * 2 = Y * 2 * 2 ^ E * 2 ^ j:=by
   rw [Nat.mul_comm (2 ^ j),Nat.mul_right_comm Y 2,Nat.mul_right_comm]
  rw [this]
  exact Nat.mul_le_mul_right _ (Nat.mul_le_mul_right _ hY1)
 omega
theorem fl_step {X Y:Nat}  {E:Nat} {N:Nat} (h:2 * N * (Y * 2 ^ E) ≤ X * 2 ^ kB):N * (Y * 2 ^ (E + 1)) ≤ X * 2 ^ kB:=by
 have:N * (Y * 2 ^ (E + 1)) = 2 * N * (Y * 2 ^ E):=by
  rw [Nat.pow_succ,← Nat.mul_assoc Y,← Nat.mul_assoc N,Nat.mul_comm _ 2,Nat.mul_assoc 2]
 rw [this]
 exact h
theorem flU_cases {p q X Y:Nat} :(flU p q X Y = flG p q + 1 ∧ 9007199254740992 * (Y * 2 ^ flG p q) ≤ X * 2 ^ kB) ∨ (flU p q X Y = flG p q ∧ X * 2 ^ kB < 9007199254740992 * (Y * 2 ^ flG p q)):=by
 have e:Y * 2 ^ (53 + flG p q) = 9007199254740992 * (Y * 2 ^ flG p q):=by
  rw [Nat.pow_add,two53,← Nat.mul_assoc,Nat.mul_comm Y,Nat.mul_assoc]
 unfold flU
 rw [e]
 split
 ·next h => exact .inl ⟨rfl,h⟩
 ·next h => exact .inr ⟨rfl,Nat.lt_of_not_le h⟩
theorem rdE_A {p q X Y:Nat} (hX1:2 ^ p ≤ X * 2) (hX2:X < 2 ^ p) (hY1:2 ^ q ≤ Y * 2) (hY2:Y < 2 ^ q) {E:Nat} (h0:p + kB - (q + 54) ≤ E) (h:E < flU p q X Y):9007199254740992 ≤ rdE X Y E:=by
 refine rd_ge (fl_ypos hY1 E) ?_
 rcases flU_cases (p:=p) (q:=q) (X:=X) (Y:=Y) with ⟨h1,h2⟩ | ⟨h1,h2⟩
 ·have h3:Y * 2 ^ E ≤ Y * 2 ^ flG p q:=Nat.mul_le_mul_left _ (Nat.pow_le_pow_right (by decide) (by omega))
  exact Nat.le_trans (Nat.mul_le_mul_left _ h3) h2
 ·rw [two53]
  refine fl_above hX1 hY2 ?_
  unfold flG at h1
  omega
theorem rdE_B' {p q X Y:Nat} (hX1:2 ^ p ≤ X * 2) (hX2:X < 2 ^ p) (hY1:2 ^ q ≤ Y * 2) (hY2:Y < 2 ^ q):X * 2 ^ kB < 9007199254740992 * (Y * 2 ^ flU p q X Y):=by
 rcases flU_cases (p:=p) (q:=q) (X:=X) (Y:=Y) with ⟨h1,h2⟩ | ⟨h1,h2⟩
 ·rw [h1,two53]
  refine fl_under hX2 hY1 ?_
  unfold flG
  omega
 ·rw [h1]; exact h2
theorem rdE_B {p q X Y:Nat} (hX1:2 ^ p ≤ X * 2) (hX2:X < 2 ^ p) (hY1:2 ^ q ≤ Y * 2) (hY2:Y < 2 ^ q):rdE X Y (flU p q X Y) ≤ 9007199254740992:=rd_le (fl_ypos hY1 _) (rdE_B' hX1 hX2 hY1 hY2)
theorem rdE_C {p q X Y:Nat} (hX1:2 ^ p ≤ X * 2) (hX2:X < 2 ^ p) (hY1:2 ^ q ≤ Y * 2) (hY2:Y < 2 ^ q) (h:rdE X Y (flU p q X Y) = 9007199254740992):rdE X Y (flU p q X Y + 1) = 4503599627370496:=by
 have h1:=rd_carry (A:=X * 2 ^ kB) (B:=Y * 2 ^ flU p q X Y) (M:=4503599627370496) (fl_ypos hY1 _) (by decide) (rdE_B' hX1 hX2 hY1 hY2) h
 unfold rdE
 rw [Nat.pow_succ,← Nat.mul_assoc]
 exact h1
theorem rdE_D {p q X Y:Nat} (hX1:2 ^ p ≤ X * 2) (hX2:X < 2 ^ p) (hY1:2 ^ q ≤ Y * 2) (hY2:Y < 2 ^ q) (h:0 < flU p q X Y):4503599627370496 ≤ rdE X Y (flU p q X Y):=by
 refine rd_ge (fl_ypos hY1 _) ?_
 rcases flU_cases (p:=p) (q:=q) (X:=X) (Y:=Y) with ⟨h1,h2⟩ | ⟨h1,h2⟩
 ·rw [h1]
  exact fl_step h2
 ·rw [h1,two52]
  refine fl_above hX1 hY2 ?_
  rw [h1] at h
  unfold flG at h ⊢
  omega
theorem fl_end {p q X Y:Nat} (hX1:2 ^ p ≤ X * 2) (hX2:X < 2 ^ p) (hY1:2 ^ q ≤ Y * 2) (hY2:Y < 2 ^ q) {E:Nat} (h0:p + kB - (q + 54) ≤ E) (h1:E ≤ flU p q X Y + 1) (h2:E = flU p q X Y + 1 → rdE X Y (flU p q X Y) = 9007199254740992) (h3:rdE X Y E < 9007199254740992) :
  (2045 < E → flN p q X Y = 9218868437227405312) ∧ (E ≤ 2045 → flN p q X Y = E * 4503599627370496 + rdE X Y E ∧ (rdE X Y E < 4503599627370496 → E = 0)):=by
 have hA:=fun h => rdE_A (E:=E) hX1 hX2 hY1 hY2 h0 h
 have hC:=rdE_C hX1 hX2 hY1 hY2
 have hD:=rdE_D hX1 hX2 hY1 hY2
 have hB:=rdE_B hX1 hX2 hY1 hY2
 obtain ⟨U,hU⟩:∃ U,flU p q X Y = U:=⟨_,rfl⟩
 unfold flN
 rw [hU] at hA hC hD hB h1 h2 ⊢
 have hge:U ≤ E:=by
  by_cases k:E < U
  ·have:=hA k; omega
  ·omega
 by_cases k:E = U + 1
 ·have e1:=h2 k
  have e2:=hC e1
  rw [← k] at e2
  rw [e1,e2]
  refine ⟨fun h => ?_,fun h => ⟨?_,fun h => absurd h (by omega)⟩⟩
  ·by_cases h9:2045 < U
   ·rw [if_pos h9]
   ·rw [if_neg h9]; omega
  ·rw [if_neg (by omega)]; omega
 ·have e:E = U:=by omega
  subst e
  refine ⟨fun h => if_pos h,fun h => ⟨if_neg (by omega),fun h' => ?_⟩⟩
  by_cases h9:0 < E
  ·have:=hD h9; omega
  ·omega

def FlF (g:Bool) (x y:List Nat):Nat × Int:=if MayR g x y then ((if g then 9223372036854775808 else 0) + (if x = [] then 0 else flN (bitsN x) (bitsN y) (val x) (val y)),0) else (0,40)
theorem bits_two {xs:List Nat} (ox:Ok xs) (kx:MayL xs = true) (h0:xs ≠ []):2 ^ bitsN xs ≤ val xs * 2 ∧ val xs < 2 ^ bitsN xs ∧ 1 ≤ bitsN xs ∧ bitsN xs ≤ 65536:=by
 obtain ⟨h1,h2,h3⟩:=bits_top ox (MayL.norm kx) h0 rfl
 have h4:=MayL.len kx
 refine ⟨?_,val_lt_bits ox,h2,by omega⟩
 obtain ⟨k,hk⟩:∃ k,bitsN xs = k + 1:=⟨bitsN xs - 1,by omega⟩
 rw [hk] at h3 ⊢
 rw [Nat.pow_succ]
 simp only [Nat.add_sub_cancel] at h3
 omega
theorem bits_ge {v k:Nat}:k < bitsN (limbs v) ↔ 2 ^ k ≤ v:=by
 constructor
 ·intro h
  have h0:limbs v ≠ []:=by intro e; rw [e] at h; simp [bitsN] at h
  obtain ⟨h1,h2,h3⟩:=bits_top (limbs_ok v) (limbs_norm v) h0 rfl
  rw [limbs_v] at h3
  exact Nat.le_trans (Nat.pow_le_pow_right (by decide) (by omega)) h3
 ·intro h
  have h1:=val_lt_bits (limbs_ok v)
  rw [limbs_v] at h1
  exact (Nat.pow_lt_pow_iff_right (by decide)).1 (Nat.lt_of_le_of_lt h h1)
end Go.Proofs.YtlolnaegfponeaaGreatDoor
