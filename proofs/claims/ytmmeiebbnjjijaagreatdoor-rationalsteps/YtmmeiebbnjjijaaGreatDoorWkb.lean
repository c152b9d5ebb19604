/- Rf2 -/
import Derived.Test.YtmmeiebbnjjijaaGreatDoorRf1
import Derived.Test.YtmmeiebbnjjijaaGreatDoorWic
import Derived.Test.YtmmeiebbnjjijaaGreatDoorRa8
import Derived.Test.YtmmeiebbnjjijaaGreatDoorWi2
import Derived.Test.YtmmeiebbnjjijaaGreatDoorDv7
import Derived.Test.YtmmeiebbnjjijaaGreatDoorWip
import Derived.Test.YtmmeiebbnjjijaaGreatDoorWia
import Derived.Deep.RegionHeld3
namespace Go.Proofs.YtmmeiebbnjjijaaGreatDoor
open Go.RowKit Go.Deep
set_option linter.unusedVariables false

structure Fr (g:Bool) (x y:List Nat) (P Q:Int):Prop where
 may:MayR g x y = true
 pos:0 < Q
 eq:nI g (val x) * Q = P * (val y:Int)
theorem Fr.self {g:Bool} {x y:List Nat} (h:MayR g x y = true):Fr g x y (nI g (val x)) (val y:Int):=⟨h,posI h,rfl⟩
theorem Fr.add {g1 g2 g:Bool} {x1 y1 x2 y2 x y:List Nat} {P1 Q1 P2 Q2:Int} (h1:Fr g1 x1 y1 P1 Q1) (h2:Fr g2 x2 y2 P2 Q2) (e:AddF g1 x1 y1 g2 x2 y2 = ((g,x,y),0)):Fr g x y (P1 * Q2 + P2 * Q1) (Q1 * Q2):=by
 obtain ⟨g',N,D,e2,m,hD,hv⟩:=addF_ok h1.may h2.may (by rw [e])
 rw [e] at e2
 cases e2
 have yp1:=posI h1.may
 have yp2:=posI h2.may
 refine ⟨m,Int.mul_pos h1.pos h2.pos,?_⟩
 rw [(limbs_rep N).val,(limbs_rep D).val]
 have k1:=h1.eq
 have k2:=h2.eq
 refine Int.eq_of_mul_eq_mul_right (Int.ne_of_gt (Int.mul_pos yp1 yp2)) ?_
 have a1:nI g N * (Q1 * Q2) * ((val y1:Int) * (val y2:Int)) = nI g N * ((val y1:Int) * (val y2:Int)) * (Q1 * Q2):=by ac_rfl
 rw [a1,hv]
 have a2:(nI g1 (val x1) * (val y2:Int) + nI g2 (val x2) * (val y1:Int)) * (D:Int) * (Q1 * Q2) = (nI g1 (val x1) * Q1) * ((val y2:Int) * Q2 * (D:Int)) + (nI g2 (val x2) * Q2) * ((val y1:Int) * Q1 * (D:Int)):=by
  rw [Int.add_mul,Int.add_mul]
  congr 1
  ·ac_rfl
  ·ac_rfl
 rw [a2,k1,k2,Int.add_mul,Int.add_mul]
 congr 1
 ·ac_rfl
 ·ac_rfl
theorem Fr.mul {g1 g2 g:Bool} {x1 y1 x2 y2 x y:List Nat} {P1 Q1 P2 Q2:Int} (h1:Fr g1 x1 y1 P1 Q1) (h2:Fr g2 x2 y2 P2 Q2) (e:MulF g1 x1 y1 g2 x2 y2 = ((g,x,y),0)):Fr g x y (P1 * P2) (Q1 * Q2):=by
 obtain ⟨g',N,D,e2,m,hD,hv⟩:=mulF_ok h1.may h2.may (by rw [e])
 rw [e] at e2
 cases e2
 have yp1:=posI h1.may
 have yp2:=posI h2.may
 refine ⟨m,Int.mul_pos h1.pos h2.pos,?_⟩
 rw [(limbs_rep N).val,(limbs_rep D).val]
 have k1:=h1.eq
 have k2:=h2.eq
 refine Int.eq_of_mul_eq_mul_right (Int.ne_of_gt (Int.mul_pos yp1 yp2)) ?_
 have a1:nI g N * (Q1 * Q2) * ((val y1:Int) * (val y2:Int)) = nI g N * ((val y1:Int) * (val y2:Int)) * (Q1 * Q2):=by ac_rfl
 rw [a1,hv]
 have a2:nI g1 (val x1) * nI g2 (val x2) * (D:Int) * (Q1 * Q2) = (nI g1 (val x1) * Q1) * (nI g2 (val x2) * Q2) * (D:Int):=by ac_rfl
 rw [a2,k1,k2]
 ac_rfl
theorem Fr.same {g1 g2:Bool} {x1 y1 x2 y2:List Nat} {P1 Q1 P2 Q2:Int} (ox1:Ok x1) (oy1:Ok y1) (ox2:Ok x2) (oy2:Ok y2) (h1:Fr g1 x1 y1 P1 Q1) (h2:Fr g2 x2 y2 P2 Q2) (h:P1 * Q2 = P2 * Q1):sameR g1 x1 y1 g2 x2 y2 = true:=by
 rw [order_same ox1 oy1 ox2 oy2 h1.may h2.may,cmpF_may h1.may h2.may]
 have yp1:=posI h1.may
 have yp2:=posI h2.may
 have k1:=h1.eq
 have k2:=h2.eq
 have:nI g1 (val x1) * (val y2:Int) = nI g2 (val x2) * (val y1:Int):=by
  refine Int.eq_of_mul_eq_mul_right (Int.ne_of_gt (Int.mul_pos h1.pos h2.pos)) ?_
  have a1:nI g1 (val x1) * (val y2:Int) * (Q1 * Q2) = (nI g1 (val x1) * Q1) * ((val y2:Int) * Q2):=by ac_rfl
  have a2:nI g2 (val x2) * (val y1:Int) * (Q1 * Q2) = (nI g2 (val x2) * Q2) * ((val y1:Int) * Q1):=by ac_rfl
  rw [a1,a2,k1,k2]
  have a3:P1 * (val y1:Int) * ((val y2:Int) * Q2) = (P1 * Q2) * ((val y1:Int) * (val y2:Int)):=by ac_rfl
  have a4:P2 * (val y2:Int) * ((val y1:Int) * Q1) = (P2 * Q1) * ((val y1:Int) * (val y2:Int)):=by ac_rfl
  rw [a3,a4,h]
 rw [this,Int.sub_self]
 rfl
structure Vl (w:World) (g:Bool) (a:Option Addr) (n c:Nat) (x:List Nat) (b:Option Addr) (m d:Nat) (y:List Nat) (k:Bool) (P Q:Int):Prop where
 nm:Nm w a n c x b m d y
 ox:Ok x
 oy:Ok y
 fr:k = true → Fr g x y P Q
def fV (g:Bool) (a:Option Addr) (n c:Nat) (x:List Nat) (b:Option Addr) (m d:Nat) (y:List Nat) (k:Bool) (P Q:Int):Fct:=⟨fun w => Vl w g a n c x b m d y k P Q,fun h v => ⟨⟨v.nm.num.below h,v.nm.den.below h⟩,v.ox,v.oy,v.fr⟩⟩
theorem Fcts.v {w0 w:World} {L:List Fct} (h:Fcts w0 w L) {g:Bool} {a:Option Addr} {n c:Nat} {x:List Nat} {b:Option Addr} {m d:Nat} {y:List Nat} {k:Bool} {P Q:Int} (hm:fV g a n c x b m d y k P Q ∈ L):Vl w g a n c x b m d y k P Q:=h.all _ hm
theorem and3 {k1 k2:Bool} {e:Int} (h:(k1 && (k2 && (e == 0))) = true):k1 = true ∧ k2 = true ∧ e = 0:=by
 simpa using h
def VPost (w0:World) (L:List Fct) (P Q:Int) (e:Ending) (w':World):Prop:=∃ g a n c x b m d y k,e = .returned (.agg #[.bool g,.slice a n c,.slice b m d,.bool k]) ∧ Fcts w0 w' (fV g a n c x b m d y k P Q :: L)
theorem vlSum {w0 W:World} {L:List Fct} (h:Fcts w0 W L) {g1 g2 k1 k2:Bool} {a1 b1 a2 b2:Option Addr} {n1 c1 m1 d1 n2 c2 m2 d2:Nat} {x1 y1 x2 y2:List Nat} {P1 Q1 P2 Q2:Int} (h1:fV g1 a1 n1 c1 x1 b1 m1 d1 y1 k1 P1 Q1 ∈ L) (h2:fV g2 a2 n2 c2 x2 b2 m2 d2 y2 k2 P2 Q2 ∈ L) (hT:fTab ∈ L) :
  Calls Tryz.prog 22 #[.agg #[.bool g1,.slice a1 n1 c1,.slice b1 m1 d1,.bool k1],.agg #[.bool g2,.slice a2 n2 c2,.slice b2 m2 d2,.bool k2]] W fun e w' => VPost w0 L (P1 * Q2 + P2 * Q1) (Q1 * Q2) e w':=by
 have v1:=h.v h1
 have v2:=h.v h2
 have K:=didSum_any g1 g2 k1 k2 a1 b1 a2 b2 n1 c1 m1 d1 n2 c2 m2 d2 x1 y1 x2 y2 W v1.nm.num v1.nm.den v2.nm.num v2.nm.den v1.ox v1.oy v2.ox v2.oy (h.tab hT)
 refine K.mono ?_
 rintro e w' ⟨a,n,c,b,m,d,he,sx,sy,hb⟩
 obtain ⟨⟨⟨g,x,y⟩,er⟩,hR⟩:∃ r,AddF g1 x1 y1 g2 x2 y2 = r:=⟨_,rfl⟩
 have ol:=addF_lists (g1:=g1) (x1:=x1) (y1:=y1) (g2:=g2) (x2:=x2) (y2:=y2)
 rw [hR] at he sx sy ol
 refine ⟨g,a,n,c,x,b,m,d,y,_,he,(h.step hb).add _ ⟨⟨sx,sy⟩,ol.1,ol.2,fun hk => ?_⟩⟩
 obtain ⟨e1,e2,e3⟩:=and3 hk
 have e3':er = 0:=e3
 subst e3'
 exact (v1.fr e1).add (v2.fr e2) hR
theorem vlTimes {w0 W:World} {L:List Fct} (h:Fcts w0 W L) {g1 g2 k1 k2:Bool} {a1 b1 a2 b2:Option Addr} {n1 c1 m1 d1 n2 c2 m2 d2:Nat} {x1 y1 x2 y2:List Nat} {P1 Q1 P2 Q2:Int} (h1:fV g1 a1 n1 c1 x1 b1 m1 d1 y1 k1 P1 Q1 ∈ L) (h2:fV g2 a2 n2 c2 x2 b2 m2 d2 y2 k2 P2 Q2 ∈ L) (hT:fTab ∈ L) :
  Calls Tryz.prog 23 #[.agg #[.bool g1,.slice a1 n1 c1,.slice b1 m1 d1,.bool k1],.agg #[.bool g2,.slice a2 n2 c2,.slice b2 m2 d2,.bool k2]] W fun e w' => VPost w0 L (P1 * P2) (Q1 * Q2) e w':=by
 have v1:=h.v h1
 have v2:=h.v h2
 have K:=didTimes_any g1 g2 k1 k2 a1 b1 a2 b2 n1 c1 m1 d1 n2 c2 m2 d2 x1 y1 x2 y2 W v1.nm.num v1.nm.den v2.nm.num v2.nm.den v1.ox v1.oy v2.ox v2.oy (h.tab hT)
 refine K.mono ?_
 rintro e w' ⟨a,n,c,b,m,d,he,sx,sy,hb⟩
 obtain ⟨⟨⟨g,x,y⟩,er⟩,hR⟩:∃ r,MulF g1 x1 y1 g2 x2 y2 = r:=⟨_,rfl⟩
 have ol:=mulF_lists (g1:=g1) (x1:=x1) (y1:=y1) (g2:=g2) (x2:=x2) (y2:=y2)
 rw [hR] at he sx sy ol
 refine ⟨g,a,n,c,x,b,m,d,y,_,he,(h.step hb).add _ ⟨⟨sx,sy⟩,ol.1,ol.2,fun hk => ?_⟩⟩
 obtain ⟨e1,e2,e3⟩:=and3 hk
 have e3':er = 0:=e3
 subst e3'
 exact (v1.fr e1).mul (v2.fr e2) hR
theorem big_of_may {x:List Nat} (ox:Ok x) (m:MayL x = true):bigN (val x) = false:=by
 unfold bigN
 rw [limbs_val ox (MayL.norm m)]
 have:=MayL.len m
 simpa using this
theorem cross {S T V Y12 D D0 N0:Int} (hY:0 < Y12) (e1:S * Y12 = V * D) (e2:N0 * Y12 = V * D0):S * D0 = N0 * D:=by
 refine Int.eq_of_mul_eq_mul_right (Int.ne_of_gt hY) ?_
 have a1:S * D0 * Y12 = (S * Y12) * D0:=by ac_rfl
 have a2:N0 * D * Y12 = (N0 * Y12) * D:=by ac_rfl
 rw [a1,a2,e1,e2]
 ac_rfl
theorem subF_back {ga gb g:Bool} {xa ya xb yb x y:List Nat} (oa:Ok xa) (oa2:Ok ya) (ha:MayR ga xa ya = true) (hb:MayR gb xb yb = true) (h:Fr g x y (nI ga (val xa) * (val yb:Int) + nI gb (val xb) * (val ya:Int)) ((val ya:Int) * (val yb:Int))):SubF g x y gb xb yb = ((ga,xa,ya),0):=by
 have l1:=(MayR.parts h.may).2.2.2.2
 have l2:=(MayR.parts hb).2.2.2.2
 have p1:=mayR_pos h.may
 have p2:=mayR_pos hb
 have hG:0 < adG y yb:=Nat.gcd_pos_of_pos_right _ p2
 have lo:=add_low (G:=adG y yb) l1 l2 p1 p2 rfl (cmbV_abs g (!gb) (val x * (val yb / adG y yb)) (val xb * (val y / adG y yb)))
 have va:=add_val (X1:=val x) (Y1:=val y) (X2:=val xb) (Y2:=val yb) (G:=adG y yb) rfl p2 (cmbV_val g (!gb) (val x * (val yb / adG y yb)) (val xb * (val y / adG y yb)))
 have hD:0 < adD g x y (!gb) xb yb:=by
  unfold adD adC
  exact Nat.mul_pos (Nat.mul_pos (div_pos_of_dvd (Nat.gcd_dvd_left _ _) p1) (div_pos_of_dvd (Nat.gcd_dvd_right _ _) p2)) (div_pos_of_dvd (Nat.gcd_dvd_right _ _) hG)
 have lo':Nat.gcd (adN g x y (!gb) xb yb) (adD g x y (!gb) xb yb) = 1:=lo
 have va':nI (adS g x y (!gb) xb yb).2 (adN g x y (!gb) xb yb) * ((val y * val yb:Nat):Int) = (nI g (val x) * (val yb:Int) + nI (!gb) (val xb) * (val y:Int)) * (adD g x y (!gb) xb yb:Int):=va
 have hn:nI (!gb) (val xb) = -nI gb (val xb):=by cases gb <;> simp [nI]
 have e0:nI ga (val xa) * ((val y * val yb:Nat):Int) = (nI g (val x) * (val yb:Int) + nI (!gb) (val xb) * (val y:Int)) * (val ya:Int):=by
  have hq:=h.eq
  have yap:=posI ha
  have ybp:=posI hb
  refine Int.eq_of_mul_eq_mul_right (Int.ne_of_gt ybp) ?_
  rw [hn]
  push_cast
  have a1:(nI g (val x) * (val yb:Int) + -nI gb (val xb) * (val y:Int)) * (val ya:Int) * (val yb:Int) = (nI g (val x) * ((val ya:Int) * (val yb:Int))) * (val yb:Int) + -nI gb (val xb) * (val y:Int) * ((val ya:Int) * (val yb:Int)):=by
   rw [Int.add_mul,Int.add_mul]
   congr 1
   ·ac_rfl
   ·ac_rfl
  rw [a1,hq]
  grind
 have hY:(0:Int) < ((val y * val yb:Nat):Int):=by have:=Nat.mul_pos p1 p2; omega
 have hc:=cross (T:=0) hY va' e0
 obtain ⟨r1,r2,r3⟩:=low_one (g1:=(adS g x y (!gb) xb yb).2 && decide (adN g x y (!gb) xb yb ≠ 0)) lo' (MayR.parts ha).2.2.2.2 hD (mayR_pos ha) (fun hh => by simp at hh; exact hh.2) (mayR_neg ha) (by rw [nI_and]; exact hc)
 have ex:=limbs_val oa (MayL.norm (MayR.parts ha).1)
 have ey:=limbs_val oa2 (MayL.norm (MayR.parts ha).2.1)
 unfold SubF
 rw [h.may,hb,r2,r3,big_of_may oa (MayR.parts ha).1,big_of_may oa2 (MayR.parts ha).2.1]
 rw [r2] at r1
 simp only [Bool.and_self,if_true,Bool.or_self,Bool.false_eq_true,if_false]
 rw [ex,ey,r1]
theorem sign_zero {g:Bool} {x y:List Nat} (h:MayR g x y = true) (hz:x = []):SignF g x y = 0:=by
 rw [signF_may h,hz]
 have v0:val ([]:List Nat) = 0:=rfl
 rw [v0]
 cases g <;> rfl
set_option maxHeartbeats 4000000 in
theorem ratIncr_any (a:Option Addr) (n c:Nat) (v:Nat) (w:World) (h:Sl w a n c (limbs v)) (m:MayL (limbs v) = true) (hf:(limbs (v + 1)).length ≤ 2048) :
  Calls Tryz.prog 51 #[.slice a n c] w fun e w' => NewN w w' (v + 1) e:=by
 have H:=Hd h
 have hv:addL (limbs v) [1] = (limbs (v + 1),0):=by
  unfold addL
  have v1:val [1] = 1:=by simp [val]
  have m1:MayL [1] = true:=by decide
  rw [m,m1,(limbs_rep v).val,v1]
  exact fitL_ok (by omega)
 have HV:=Hd hv
 clear h hv
 go_enter Tryz.func51,Tryz.ntmps51
 go_wp2_with fail
 refine (ratOne_any w).mono ?_
 rintro _ w1 ⟨a1,m1,rfl,s1,_,b1⟩
 have K:=nadd_any a a1 n c m1 m1 (limbs v) [1] w1 ((Uh H).below b1) s1 (limbs_rep v).ok (by intro x hx; simp at hx; subst hx; decide)
 rw [Uh HV] at K
 have HK:=Hd K
 have HB:=Hd b1
 clear s1 b1 K
 go_wp2_with fail
 refine (Uh HK).mono ?_
 rintro _ w2 ⟨a2,m2,c2,rfl,s2,n2,b2⟩
 have H2:=Hd (And.intro s2 (And.intro n2 b2))
 clear s2 n2 b2 HK
 go_wp2_with fail
 refine (sure_any _ _ _).mono ?_
 rintro _ _ ⟨rfl,hw⟩
 obtain rfl:=hw.symm
 clear hw
 go_wp2_with fail
 go_ret
 exact ⟨a2,m2,c2,rfl,(Uh H2).1,fun x hx => Nat.le_trans (Uh HB).size ((Uh H2).2.1 x hx),(Uh HB).trans ((Uh H2).2.2.mono (Uh HB).size)⟩

def flQ (g:Bool) (X Y:Nat):Nat:=if g && decide (X % Y ≠ 0) then X / Y + 1 else X / Y
def flL (g:Bool) (X Y:Nat):Nat:=if g && decide (X % Y ≠ 0) then Y - X % Y else X % Y
def FlPost (g:Bool) (X Y:Nat) (w:World) (e:Ending) (w':World):Prop :=
 ∃ a n c b m d a' n' c',e = .returned (.tuple #[ratV (g && decide (flQ g X Y ≠ 0)) a n c b m d,.slice a' n' c']) ∧ Sl w' a n c (limbs (flQ g X Y)) ∧ Sl w' b m d [1] ∧ Sl w' a' n' c' (limbs (flL g X Y)) ∧ NewAt w.heap.size a ∧ NewAt w.heap.size b ∧ Below w.heap.size w w'
theorem limbs_len0 {v:Nat} {m:Nat} (h:(limbs v).length = m):decide (0 < m) = decide (v ≠ 0):=by
 by_cases e:v = 0
 ·have hl:limbs v = []:=by
   have:=limbs_val (xs:=[]) (by intro x hx; cases hx) (by simp [Norm])
   rw [e]; simpa [val] using this
  rw [hl] at h
  simp at h
  simp [e,← h]
 ·have:limbs v ≠ []:=limbs_ne (by omega)
  have h2:=List.length_pos_iff.2 this
  rw [decide_eq_true (by omega),decide_eq_true e]
theorem incr_fit {X Y:Nat} (hY:0 < Y) (h:X % Y ≠ 0):X / Y + 1 ≤ X:=by
 have h2:2 ≤ Y:=by
  rcases Nat.lt_or_ge Y 2 with k | k
  ·obtain rfl:Y = 1:=by omega
   rw [Nat.mod_one] at h
   exact absurd rfl h
  ·exact k
 have h3:=Nat.div_add_mod X Y
 have h4:2 * (X / Y) ≤ Y * (X / Y):=Nat.mul_le_mul_right _ h2
 rcases Nat.eq_zero_or_pos (X / Y) with e | e
 ·rw [e] at h3 ⊢; omega
 ·omega
def DtPost (w w':World) (Q L:Nat) (e:Ending):Prop:=∃ a n c ps a' n' c' qs,e = .returned (.tuple #[.slice a n c,.slice a' n' c']) ∧ Wide w' a n c Q ps ∧ n ≤ 10 ∧ Wide w' a' n' c' L qs ∧ n' ≤ 1000 ∧ Below w.heap.size w w'
theorem twice_div {v c d:Nat}:v / c / d = v / (c * d):=Nat.div_div_eq_div_mul v c d
theorem twice_mod {v c d:Nat}:v / c % d * c + v % c = v % (c * d):=by rw [Nat.mod_mul,Nat.mul_comm c,Nat.add_comm]

set_option maxRecDepth 100000 in
set_option maxHeartbeats 8000000 in
theorem divTwice_any (a0:Option Addr) (n0 c0 v:Nat) (ps:List Pc) (a1 a2:Option Addr) (n1 c1 n2 c2:Nat) (xs ys:List Nat) (w:World) (h0:Wide w a0 n0 c0 v ps) (hn0:n0 ≤ 10) (h1:Sl w a1 n1 c1 xs) (h2:Sl w a2 n2 c2 ys) (ox:Ok xs) (oy:Ok ys) (kx:MayL xs = true) (ky:MayL ys = true) (ex:xs ≠ []) (ey:ys ≠ []) :
  Calls Tryz.prog 57 #[.slice a0 n0 c0,.slice a1 n1 c1,.slice a2 n2 c2] w fun e w' => DtPost w w' (v / (val xs * val ys)) (v % (val xs * val ys)) e:=by
 rw [← twice_div,← twice_mod]
 have vx:=val_pos_of_may kx ex
 have vy:=val_pos_of_may ky ey
 have K1:=by_any w w a0 n0 c0 v ps a1 n1 c1 xs (Below.refl _ _) h0 hn0 h1 ox kx ex
 have HX:=Hd (And.intro h1 (And.intro ox kx))
 have HY:=Hd (And.intro h2 (And.intro oy (And.intro ky ey)))
 have mc:MayL (limbs (v % val xs)) = true:=may_small kx ox (Nat.le_of_lt (Nat.mod_lt _ vx))
 have md:MayL (limbs (v / val xs % val ys)) = true:=may_small ky oy (Nat.le_of_lt (Nat.mod_lt _ vy))
 obtain ⟨Q1,hQ1⟩:∃ r,v / val xs = r:=⟨_,rfl⟩
 obtain ⟨L1,hL1⟩:∃ r,v % val xs = r:=⟨_,rfl⟩
 rw [hQ1,hL1] at K1 ⊢
 rw [hL1] at mc
 rw [hQ1] at md
 have HK1:=Hd K1
 have HM:=Hd (And.intro mc md)
 clear K1 h0 h1 h2 kx ky ex ey vx vy mc md hQ1 hL1 ox oy
 go_enter Tryz.func57,Tryz.ntmps57
 go_wp2_with fail
 refine (Uh HK1).mono ?_
 rintro _ w1 ⟨aq,nq,cq,qs,al,ml,cl,rfl,wq,hnq,sl,b1⟩
 have K2:=by_any w1 w1 aq nq cq Q1 qs a2 n2 c2 ys (Below.refl _ _) wq hnq ((Uh HY).1.below b1) (Uh HY).2.1 (Uh HY).2.2.1 (Uh HY).2.2.2
 have HK2:=Hd K2
 have S1:=Hd sl
 have HB1:=Hd b1
 clear K2 wq hnq sl b1 HK1
 go_wp2_with fail
 refine (Uh HK2).mono ?_
 rintro _ w2 ⟨ap,np,cp,rs,ad,md,cd,rfl,wp,hnp,sd,b2⟩
 have HB2:=Hd ((Uh HB1).trans (b2.mono (Uh HB1).size))
 have K3:=product_any ad a1 md cd n1 c1 (limbs (Q1 % val ys)) xs w2 sd ((Uh HX).1.below (Uh HB2)) (limbs_rep _).ok (Uh HX).2.1 (Uh HM).2 (Uh HX).2.2
 rw [(limbs_rep _).val] at K3
 have HK3:=Hd K3
 have S1:=Hd ((Uh S1).below b2)
 have WP:=Hd (And.intro wp hnp)
 clear K3 wp hnp sd b2 HK2 HB1
 go_wp2_with fail
 refine (Uh HK3).mono ?_
 rintro _ w3 ⟨ae,ne,ce,es,rfl,we,hne,b3⟩
 have K4:=spread_any al ml cl (limbs L1) w3 ((Uh S1).below b3) (limbs_rep _).ok (Uh HM).1
 rw [(limbs_rep _).val] at K4
 have HK4:=Hd K4
 have WP:=Hd (And.intro ((Uh WP).1.below b3) (Uh WP).2)
 have WE:=Hd (And.intro we hne)
 have HB3:=Hd ((Uh HB2).trans (b3.mono (Uh HB2).size))
 clear K4 we hne b3 HK3 HB2 S1
 go_wp2_with fail
 refine (Uh HK4).mono ?_
 rintro _ w4 ⟨af,nf,cf,fs,rfl,wf,hnf,b4,_,_,_⟩
 have K5:=plus_any ae af ne ce nf cf _ _ es fs w4 ((Uh WE).1.below b4) wf (by have:=(Uh WE).2; omega) (by omega)
 have HK5:=Hd K5
 have WP:=Hd (And.intro ((Uh WP).1.below b4) (Uh WP).2)
 have HB4:=Hd ((Uh HB3).trans (b4.mono (Uh HB3).size))
 have hmx:max ne nf + 1 ≤ 1000:=by have:=(Uh WE).2; omega
 have HMX:=Hd hmx
 clear K5 wf hnf b4 HK4 HB3 WE hmx
 go_wp2_with fail
 refine (Uh HK5).mono ?_
 rintro _ w5 ⟨ag,ng,cg,gs,rfl,wg,hng,b5⟩
 have HF:=Hd (And.intro ((Uh WP).1.below b5) (And.intro (Uh WP).2 (And.intro wg (And.intro (Nat.le_trans hng (Uh HMX)) ((Uh HB4).trans (b5.mono (Uh HB4).size))))))
 clear wg hng b5 HK5 HB4 WP HMX
 go_wp2_with fail
 first | go_ret | go_ret2
 exact ⟨_,_,_,_,_,_,_,_,rfl,(Uh HF).1,(Uh HF).2.1,(Uh HF).2.2.1,(Uh HF).2.2.2.1,(Uh HF).2.2.2.2⟩
set_option maxHeartbeats 8000000 in
set_option maxRecDepth 100000 in
theorem ratfloor_any (g:Bool) (a b:Option Addr) (n c m d:Nat) (x y:List Nat) (w:World) (hx:Sl w a n c x) (hy:Sl w b m d y) (ox:Ok x) (oy:Ok y) (kx:MayL x = true) (ky:MayL y = true) (ey:y ≠ []) :
  Calls Tryz.prog 40 #[ratV g a n c b m d] w fun e w' => FlPost g (val x) (val y) w e w':=by
 have bx:=Box.made w g a n c b m d
 obtain ⟨wa,hwa⟩:∃ wa,ratBox w g a n c b m d = wa:=⟨_,rfl⟩
 rw [hwa] at bx
 obtain ⟨wb,hwb⟩:∃ wb,wa.alloc (.cells #[.bool false,.slice none 0 0,.slice none 0 0] 25) = wb:=⟨_,rfl⟩
 have hba:Below w.heap.size w wa:=by rw [← hwa]; exact bAl
 have hbb:Below wa.heap.size wa wb:=by rw [← hwb]; exact bAl
 have hO:Out wb wa.heap.size:=by rw [← hwb]; exact Out.made wa
 have hX:=bx.keep hbb
 have hB:=hba.trans (hbb.mono hba.size)
 have hlt:=bx.lt
 have d0:=hX.d0
 have d1:=hX.d1
 have d2:=hX.d2
 unfold ratBox at hwa
 have vy:=val_pos_of_may ky ey
 have KD:=ndivmod_any a b n c m d x y wb (hx.below hB) (hy.below hB) ox oy
 have hdv:divL x y = (limbs (val x / val y),limbs (val x % val y),0):=by
  unfold divL
  rw [kx,ky]
  simp [ey]
 rw [hdv] at KD
 try dsimp only at KD
 have mq:MayL (limbs (val x / val y)) = true:=may_div kx ox _
 have ml:MayL (limbs (val x % val y)) = true:=may_small ky oy (Nat.le_of_lt (Nat.mod_lt _ vy))
 have HIf:=Hd (fun (h:val x % val y ≠ 0) => (MayL.len (may_small kx ox (incr_fit vy h)):(limbs (val x / val y + 1)).length ≤ 2048))
 have HMl:=Hd (Nat.le_of_lt (Nat.mod_lt (val x) vy))
 obtain ⟨X,hXX⟩:∃ X,val x = X:=⟨_,rfl⟩
 obtain ⟨Y,hYY⟩:∃ Y,val y = Y:=⟨_,rfl⟩
 rw [hXX,hYY] at KD mq ml HIf
 rw [hYY,hXX] at HMl
 rw [hXX,hYY]
 have HKD:=Hd KD
 have HM:=Hd (And.intro mq (And.intro ml ky))
 have HX:=Hd (And.intro hX (And.intro hO (And.intro hB (And.intro hy (And.intro hYY oy)))))
 unfold ratV at ⊢
 clear bx hX hO hB hba hbb KD hx hy hXX hYY hdv mq ml vy kx ky ey
 go_enter Tryz.func40,Tryz.ntmps40
 go_wp2_with fail
 refine (Uh HKD).mono ?_
 rintro _ w1 ⟨aq,mq,cq,al,ml,cl,rfl,sq,nq,sl,nl,_,b1⟩
 have hol:=(Uh HX).2.1.lt
 have hws:=(Uh HX).2.2.1.size
 have HW:=Hd (And.intro (show w.heap.size ≤ wa.heap.size by omega) (show w.heap.size ≤ wb.heap.size from hws))
 have HY:=Hd (And.intro ((Uh HX).1.keep b1) (And.intro ((Uh HX).2.1.keep b1) ((Uh HX).2.2.1.trans (b1.mono (Uh HX).2.2.1.size))))
 have q0:=(Uh HY).1.d0
 have q2:=(Uh HY).1.d2
 have hll:(limbs (X % Y)).length = ml:=sl.len
 cases g
 ·have HS:=Hd (And.intro sq (And.intro sl (And.intro (fun p hp => by have h1:=nq p hp; omega:∀ p,aq = some p → wb.heap.size ≤ p.block) (fun p hp => by have h1:=nl p hp; omega:∀ p,al = some p → wb.heap.size ≤ p.block))))
  clear sq nq sl nl b1 hll HKD hws d0 d1 d2
  have hln:=(Uh HS).1.len
  have K:=ratWhole_any false aq mq cq w1
  unfold WhPost at K
  rw [limbs_len0 hln] at K
  obtain ⟨SG,hSG⟩:∃ SG,(false && decide (X / Y ≠ 0)) = SG:=⟨_,rfl⟩
  rw [hSG] at K
  unfold ratV at K
  have HK:=Hd K
  have HSG:=Hd hSG
  have e0:=(Uh HY).1.d0
  clear hln K hSG
  go_wp2_with fail
  refine (Uh HK).mono ?_
  rintro _ w5 ⟨aD,mD,cD,rfl,sD,nD,b5⟩
  have hO3:=(Uh HY).2.1.keep b5
  have hlo:=(Uh HY).2.1.lt
  obtain ⟨i0,o0⟩:=hO3.cells 0 (by decide)
  obtain ⟨i1,o1⟩:=hO3.cells 1 (by decide)
  obtain ⟨i2,o2⟩:=hO3.cells 2 (by decide)
  have r0:=hO3.fz 0 (by decide)
  have r1:=hO3.fz 1 (by decide)
  have r2:=hO3.fz 2 (by decide)
  have H4:=Hd (three_set w5 wa.heap.size (.bool SG) (.slice aq mq cq) (.slice aD mD cD) hO3.cells)
  have HZ:=Hd (And.intro ((Uh HS).1.below b5) (And.intro sD (And.intro ((Uh HS).2.1.below b5) (And.intro (fun p hp => by have h1:=(Uh HS).2.2.1 p hp; omega:∀ p,aq = some p → p.block ≠ wa.heap.size) (And.intro (fun p hp => by have h1:=nD p hp; omega:∀ p,aD = some p → p.block ≠ wa.heap.size) (And.intro (fun p hp => by have h1:=(Uh HS).2.2.2 p hp; omega:∀ p,al = some p → p.block ≠ wa.heap.size) (And.intro (fun p hp => by have h1:=(Uh HS).2.2.1 p hp; have h2:=(Uh HW).2; omega:NewAt w.heap.size aq) (And.intro (fun p hp => by have h1:=nD p hp; have h2:=(Uh HY).2.2.size; omega:NewAt w.heap.size aD) ((Uh HY).2.2.trans (b5.mono (Uh HY).2.2.size))))))))))
  clear hO3 hlo sD nD b5 HK e0 HS
  go_wp2_with fail
  obtain ⟨t0,t1,t2,c4⟩:=Uh H4
  generalize ((w5.setCell ⟨wa.heap.size,0,none⟩ (.bool SG)).setCell ⟨wa.heap.size,1,none⟩ (.slice aq mq cq)).setCell ⟨wa.heap.size,2,none⟩ (.slice aD mD cD) = wk at *
  refine bodyPost_ret (by simp [results,Tryz.results40,go_sem,t0,t1,t2]; try rfl) rfl ?_
  have z:=Uh HZ
  unfold FlPost
  rw [show flQ false X Y = X / Y from by unfold flQ; rfl,show flL false X Y = X % Y from by unfold flL; rfl]
  rw [Uh HSG]
  exact ⟨aq,mq,cq,aD,mD,cD,al,ml,cl,rfl,z.1.chg c4 (fun p hp _ => z.2.2.2.1 p hp),z.2.1.chg c4 (fun p hp _ => z.2.2.2.2.1 p hp),z.2.2.1.chg c4 (fun p hp _ => z.2.2.2.2.2.1 p hp),z.2.2.2.2.2.2.1,z.2.2.2.2.2.2.2.1,z.2.2.2.2.2.2.2.2.trans (c4.below z.2.2.2.2.2.2.2.2.size (fun k hk h => by have:=(Uh HW).1; omega))⟩
 ·by_cases hz:X % Y = 0
  ·have hl0:ml = 0:=by rw [← hll,hz]; have:=limbs_val (xs:=[]) (by intro x hx; cases hx) (by simp [Norm]); simp [val] at this; rw [this]; rfl
   have HS:=Hd (And.intro sq (And.intro sl (And.intro (fun p hp => by have h1:=nq p hp; omega:∀ p,aq = some p → wb.heap.size ≤ p.block) (fun p hp => by have h1:=nl p hp; omega:∀ p,al = some p → wb.heap.size ≤ p.block))))
   have hl1:¬ (0:Int) < (ml:Int):=by omega
   have HZ0:=Hd hz
   clear sq nq sl nl b1 hll HKD hws hl0 hz d0 d1 d2
   have hln:=(Uh HS).1.len
   have K:=ratWhole_any true aq mq cq w1
   unfold WhPost at K
   rw [limbs_len0 hln] at K
   obtain ⟨SG,hSG⟩:∃ SG,(true && decide (X / Y ≠ 0)) = SG:=⟨_,rfl⟩
   rw [hSG] at K
   unfold ratV at K
   have HK:=Hd K
   have HSG:=Hd hSG
   have e0:=(Uh HY).1.d0
   clear hln K hSG
   go_wp2_with fail
   refine (Uh HK).mono ?_
   rintro _ w5 ⟨aD,mD,cD,rfl,sD,nD,b5⟩
   have hO3:=(Uh HY).2.1.keep b5
   have hlo:=(Uh HY).2.1.lt
   obtain ⟨i0,o0⟩:=hO3.cells 0 (by decide)
   obtain ⟨i1,o1⟩:=hO3.cells 1 (by decide)
   obtain ⟨i2,o2⟩:=hO3.cells 2 (by decide)
   have r0:=hO3.fz 0 (by decide)
   have r1:=hO3.fz 1 (by decide)
   have r2:=hO3.fz 2 (by decide)
   have H4:=Hd (three_set w5 wa.heap.size (.bool SG) (.slice aq mq cq) (.slice aD mD cD) hO3.cells)
   have HZ:=Hd (And.intro ((Uh HS).1.below b5) (And.intro sD (And.intro ((Uh HS).2.1.below b5) (And.intro (fun p hp => by have h1:=(Uh HS).2.2.1 p hp; omega:∀ p,aq = some p → p.block ≠ wa.heap.size) (And.intro (fun p hp => by have h1:=nD p hp; omega:∀ p,aD = some p → p.block ≠ wa.heap.size) (And.intro (fun p hp => by have h1:=(Uh HS).2.2.2 p hp; omega:∀ p,al = some p → p.block ≠ wa.heap.size) (And.intro (fun p hp => by have h1:=(Uh HS).2.2.1 p hp; have h2:=(Uh HW).2; omega:NewAt w.heap.size aq) (And.intro (fun p hp => by have h1:=nD p hp; have h2:=(Uh HY).2.2.size; omega:NewAt w.heap.size aD) ((Uh HY).2.2.trans (b5.mono (Uh HY).2.2.size))))))))))
   clear hO3 hlo sD nD b5 HK e0 HS
   go_wp2_with fail
   obtain ⟨t0,t1,t2,c4⟩:=Uh H4
   generalize ((w5.setCell ⟨wa.heap.size,0,none⟩ (.bool SG)).setCell ⟨wa.heap.size,1,none⟩ (.slice aq mq cq)).setCell ⟨wa.heap.size,2,none⟩ (.slice aD mD cD) = wk at *
   refine bodyPost_ret (by simp [results,Tryz.results40,go_sem,t0,t1,t2]; try rfl) rfl ?_
   have z:=Uh HZ
   unfold FlPost
   rw [show flQ true X Y = X / Y from by unfold flQ; simp [Uh HZ0],show flL true X Y = X % Y from by unfold flL; simp [Uh HZ0]]
   rw [Uh HSG]
   exact ⟨aq,mq,cq,aD,mD,cD,al,ml,cl,rfl,z.1.chg c4 (fun p hp _ => z.2.2.2.1 p hp),z.2.1.chg c4 (fun p hp _ => z.2.2.2.2.1 p hp),z.2.2.1.chg c4 (fun p hp _ => z.2.2.2.2.2.1 p hp),z.2.2.2.2.2.2.1,z.2.2.2.2.2.2.2.1,z.2.2.2.2.2.2.2.2.trans (c4.below z.2.2.2.2.2.2.2.2.size (fun k hk h => by have:=(Uh HW).1; omega))⟩
  ·have hlp:(0:Int) < (ml:Int):=by
    have:limbs (X % Y) ≠ []:=limbs_ne (by omega)
    have:=List.length_pos_iff.2 this
    omega
   have HKI:=Hd (ratIncr_any aq mq cq (X / Y) w1.drew (sq.below (Below.refl _ _).drew) (Uh HM).1 (Uh HIf hz))
   have HSb:=Hd (fun (W:World) (hb:Below w1.heap.size w1 W) => (by have K:=nsub_any b al m d ml cl y (limbs (X % Y)) W (((Uh HX).2.2.2.1.below (Uh HY).2.2).below hb) (sl.below hb) (Uh HX).2.2.2.2.2 (limbs_rep _).ok; rw [sub_fit (Uh HM).2.2 (Uh HM).2.1 (by rw [(limbs_rep _).val,(Uh HX).2.2.2.2.1]; exact Uh HMl),(limbs_rep _).val,(Uh HX).2.2.2.2.1] at K; exact K:Calls Tryz.prog 98 #[.slice b m d,.slice al ml cl] W fun e w' => Res2 W w' (limbs (Y - X % Y),0) e))
   have HZ0:=Hd hz
   have HB1:=Hd b1
   clear sq nq sl nl b1 hll HKD hws hz d0 d1 d2
   go_wp2_with fail
   go_region_held3 (fun w' => w'.cell? ⟨w.heap.size,2,none⟩ = some (.slice b m d)) (first | go_keep | (exact e2) | (exact f2))
    (first
     | (go_at_call 51; refine (Uh HKI).mono ?_; rintro _ w2 ⟨aq,mq,cq,rfl,sq,nq,b2⟩; have hb2:Below w1.heap.size w1 w2:=(Below.refl _ _).drew.trans b2; have e2:=(ck hb2 q2); have HI2:=Hd (And.intro sq (And.intro nq hb2)); clear sq nq b2 hb2)
     | (go_at_call 98; refine (Uh HSb _ (Uh HI2).2.2).mono ?_; rintro _ w3 ⟨al,ml,cl,rfl,sl,nl,b3⟩; have f2:=(ck b3 e2); have HI3:=Hd (And.intro sl (And.intro nl b3)); clear sl nl b3)
     | (go_at_call 93; refine (sure_any _ _ _).mono ?_; rintro _ _ ⟨rfl,hw⟩; obtain rfl:=hw.symm; clear hw))
   have hb13:=(Uh HI2).2.2.trans ((Uh HI3).2.2.mono (Uh HI2).2.2.size)
   have hw1:=(Uh HB1).size
   have HS:=Hd (And.intro ((Uh HI2).1.below (Uh HI3).2.2) (And.intro (Uh HI3).1 (And.intro (fun p hp => by have h1:=(Uh HI2).2.1 p hp; simp at h1; omega:∀ p,aq = some p → wb.heap.size ≤ p.block) (fun p hp => by have h1:=(Uh HI3).2.1 p hp; have h2:=(Uh HI2).2.2.size; omega:∀ p,al = some p → wb.heap.size ≤ p.block))))
   have HY4:=Hd (And.intro ((Uh HY).1.keep hb13) (And.intro ((Uh HY).2.1.keep hb13) ((Uh HY).2.2.trans (hb13.mono (Uh HY).2.2.size))))
   clear hb13 hw1 HI2 HI3 HY HKI HSb HB1 q0 q2
   have HY:=HY4
   clear HY4
   have hln:=(Uh HS).1.len
   have K:=ratWhole_any true aq mq cq w3
   unfold WhPost at K
   rw [limbs_len0 hln] at K
   obtain ⟨SG,hSG⟩:∃ SG,(true && decide (X / Y + 1 ≠ 0)) = SG:=⟨_,rfl⟩
   rw [hSG] at K
   unfold ratV at K
   have HK:=Hd K
   have HSG:=Hd hSG
   have e0:=(Uh HY).1.d0
   clear hln K hSG
   go_wp2_with fail
   refine (Uh HK).mono ?_
   rintro _ w5 ⟨aD,mD,cD,rfl,sD,nD,b5⟩
   have hO3:=(Uh HY).2.1.keep b5
   have hlo:=(Uh HY).2.1.lt
   obtain ⟨i0,o0⟩:=hO3.cells 0 (by decide)
   obtain ⟨i1,o1⟩:=hO3.cells 1 (by decide)
   obtain ⟨i2,o2⟩:=hO3.cells 2 (by decide)
   have r0:=hO3.fz 0 (by decide)
   have r1:=hO3.fz 1 (by decide)
   have r2:=hO3.fz 2 (by decide)
   have H4:=Hd (three_set w5 wa.heap.size (.bool SG) (.slice aq mq cq) (.slice aD mD cD) hO3.cells)
   have HZ:=Hd (And.intro ((Uh HS).1.below b5) (And.intro sD (And.intro ((Uh HS).2.1.below b5) (And.intro (fun p hp => by have h1:=(Uh HS).2.2.1 p hp; omega:∀ p,aq = some p → p.block ≠ wa.heap.size) (And.intro (fun p hp => by have h1:=nD p hp; omega:∀ p,aD = some p → p.block ≠ wa.heap.size) (And.intro (fun p hp => by have h1:=(Uh HS).2.2.2 p hp; omega:∀ p,al = some p → p.block ≠ wa.heap.size) (And.intro (fun p hp => by have h1:=(Uh HS).2.2.1 p hp; have h2:=(Uh HW).2; omega:NewAt w.heap.size aq) (And.intro (fun p hp => by have h1:=nD p hp; have h2:=(Uh HY).2.2.size; omega:NewAt w.heap.size aD) ((Uh HY).2.2.trans (b5.mono (Uh HY).2.2.size))))))))))
   clear hO3 hlo sD nD b5 HK e0 HS
   go_wp2_with fail
   obtain ⟨t0,t1,t2,c4⟩:=Uh H4
   generalize ((w5.setCell ⟨wa.heap.size,0,none⟩ (.bool SG)).setCell ⟨wa.heap.size,1,none⟩ (.slice aq mq cq)).setCell ⟨wa.heap.size,2,none⟩ (.slice aD mD cD) = wk at *
   refine bodyPost_ret (by simp [results,Tryz.results40,go_sem,t0,t1,t2]; try rfl) rfl ?_
   have z:=Uh HZ
   unfold FlPost
   rw [show flQ true X Y = X / Y + 1 from by unfold flQ; simp [Uh HZ0],show flL true X Y = Y - X % Y from by unfold flL; simp [Uh HZ0]]
   rw [Uh HSG]
   exact ⟨aq,mq,cq,aD,mD,cD,al,ml,cl,rfl,z.1.chg c4 (fun p hp _ => z.2.2.2.1 p hp),z.2.1.chg c4 (fun p hp _ => z.2.2.2.2.1 p hp),z.2.2.1.chg c4 (fun p hp _ => z.2.2.2.2.2.1 p hp),z.2.2.2.2.2.2.1,z.2.2.2.2.2.2.2.1,z.2.2.2.2.2.2.2.2.trans (c4.below z.2.2.2.2.2.2.2.2.size (fun k hk h => by have:=(Uh HW).1; omega))⟩
end Go.Proofs.YtmmeiebbnjjijaaGreatDoor
