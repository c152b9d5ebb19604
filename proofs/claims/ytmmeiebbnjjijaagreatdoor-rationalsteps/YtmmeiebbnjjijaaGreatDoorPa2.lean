/- Wiq -/
import Derived.Test.YtmmeiebbnjjijaaGreatDoorWil
import Derived.Test.YtmmeiebbnjjijaaGreatDoorRa8
import Derived.Test.YtmmeiebbnjjijaaGreatDoorWij
import Derived.Test.YtmmeiebbnjjijaaGreatDoorWip
import Derived.Test.YtmmeiebbnjjijaaGreatDoorWii
import Derived.Test.YtmmeiebbnjjijaaGreatDoorRd1
import Derived.Test.YtmmeiebbnjjijaaGreatDoorMul
import Derived.Laws.BytesArg
import Derived.Test.YtmmeiebbnjjijaaGreatDoorDv4
import Derived.Test.YtmmeiebbnjjijaaGreatDoorCmp
import Derived.Deep.LoopGhost
import Derived.Test.YtmmeiebbnjjijaaGreatDoorFo4
import Derived.Test.YtmmeiebbnjjijaaGreatDoorUpd
namespace Go.Proofs.YtmmeiebbnjjijaaGreatDoor
open Go.RowKit Go.Deep
set_option linter.unusedVariables false
def nI (g:Bool) (v:Nat):Int:=if g then -(v:Int) else (v:Int)
theorem nI_mul (g:Bool) (v k:Nat):nI g (v * k) = nI g v * (k:Int):=by
 cases g <;> simp [nI,Int.neg_mul]
theorem nI_xor (g h:Bool) (u v:Nat):nI (g != h) (u * v) = nI g u * nI h v:=by
 cases g <;> cases h <;> simp [nI,Int.neg_mul,Int.mul_neg]
theorem nI_and (g:Bool) (v:Nat):nI (g && decide (v ≠ 0)) v = nI g v:=by
 cases g
 ·rfl
 ·by_cases h:v = 0
  ·subst h; rfl
  ·simp [nI,h]
theorem nI_inj {g h:Bool} {u v:Nat} (e:nI g u = nI h v) (hg:g = true → u ≠ 0) (hh:h = true → v ≠ 0):g = h ∧ u = v:=by
 cases g <;> cases h <;> simp [nI] at * <;> omega
theorem cop_of {a b:Nat} (h:∀ d,d ∣ a → d ∣ b → d = 1):Nat.gcd a b = 1:=h _ (Nat.gcd_dvd_left a b) (Nat.gcd_dvd_right a b)
theorem cop_dvd {a b d:Nat} (h:Nat.gcd a b = 1) (h1:d ∣ a) (h2:d ∣ b):d = 1:=Nat.dvd_one.1 (h ▸ Nat.dvd_gcd h1 h2)
theorem cop_mul {a b c:Nat} (h1:Nat.gcd a b = 1) (h2:Nat.gcd a c = 1):Nat.gcd a (b * c) = 1:=Nat.Coprime.mul_right h1 h2
theorem cop_mul_left {a b c:Nat} (h1:Nat.gcd a c = 1) (h2:Nat.gcd b c = 1):Nat.gcd (a * b) c = 1:=by
 rw [Nat.gcd_comm]; exact cop_mul (by rw [Nat.gcd_comm]; exact h1) (by rw [Nat.gcd_comm]; exact h2)
theorem cop_le {a b a' b':Nat} (h:Nat.gcd a b = 1) (h1:a' ∣ a) (h2:b' ∣ b):Nat.gcd a' b' = 1:=cop_of fun _ d1 d2 => cop_dvd h (Nat.dvd_trans d1 h1) (Nat.dvd_trans d2 h2)
theorem cop_quot {a b:Nat} (hb:0 < b):Nat.gcd (a / Nat.gcd a b) (b / Nat.gcd a b) = 1:=by
 have hg:0 < Nat.gcd a b:=Nat.gcd_pos_of_pos_right _ hb
 rw [Nat.gcd_div (Nat.gcd_dvd_left _ _) (Nat.gcd_dvd_right _ _)]
 exact Nat.div_self hg
theorem div_of {a b:Nat} (h:b ∣ a):a = a / b * b:=(Nat.div_mul_cancel h).symm
theorem mul_low {X1 Y1 X2 Y2:Nat} (h1:Nat.gcd X1 Y1 = 1) (h2:Nat.gcd X2 Y2 = 1) (p1:0 < Y1) (p2:0 < Y2) :
  Nat.gcd (X1 / Nat.gcd X1 Y2 * (X2 / Nat.gcd X2 Y1)) (Y1 / Nat.gcd X2 Y1 * (Y2 / Nat.gcd X1 Y2)) = 1:=by
 have a1:X1 / Nat.gcd X1 Y2 ∣ X1:=Nat.div_dvd_of_dvd (Nat.gcd_dvd_left _ _)
 have a2:X2 / Nat.gcd X2 Y1 ∣ X2:=Nat.div_dvd_of_dvd (Nat.gcd_dvd_left _ _)
 have b1:Y1 / Nat.gcd X2 Y1 ∣ Y1:=Nat.div_dvd_of_dvd (Nat.gcd_dvd_right _ _)
 have b2:Y2 / Nat.gcd X1 Y2 ∣ Y2:=Nat.div_dvd_of_dvd (Nat.gcd_dvd_right _ _)
 exact cop_mul_left (cop_mul (cop_le h1 a1 b1) (cop_quot p2)) (cop_mul (cop_quot p1) (cop_le h2 a2 b2))
theorem mul_val {X1 Y1 X2 Y2:Nat} (p1:0 < Y1) (p2:0 < Y2) :
  X1 / Nat.gcd X1 Y2 * (X2 / Nat.gcd X2 Y1) * (Y1 * Y2) = X1 * X2 * (Y1 / Nat.gcd X2 Y1 * (Y2 / Nat.gcd X1 Y2)):=by
 have a1:=div_of (Nat.gcd_dvd_left X1 Y2)
 have a2:=div_of (Nat.gcd_dvd_left X2 Y1)
 have b1:=div_of (Nat.gcd_dvd_right X2 Y1)
 have b2:=div_of (Nat.gcd_dvd_right X1 Y2)
 generalize X1 / Nat.gcd X1 Y2 = x1 at *
 generalize X2 / Nat.gcd X2 Y1 = x2 at *
 generalize Y1 / Nat.gcd X2 Y1 = y1 at *
 generalize Y2 / Nat.gcd X1 Y2 = y2 at *
 generalize Nat.gcd X1 Y2 = g at *
 generalize Nat.gcd X2 Y1 = h at *
 rw [a1,a2,b1,b2]
 simp only [Nat.mul_comm,Nat.mul_left_comm]
theorem cop_sum {a b y S:Nat} (h:Nat.gcd a y = 1) (hb:y ∣ b) (hS:S = a + b ∨ (S = a - b ∧ b ≤ a) ∨ (S = b - a ∧ a ≤ b)):Nat.gcd S y = 1:=by
 refine cop_of fun d d1 d2 => cop_dvd h ?_ d2
 have db:d ∣ b:=Nat.dvd_trans d2 hb
 rcases hS with e | ⟨e,hle⟩ | ⟨e,hle⟩
 ·rw [e] at d1; exact (Nat.dvd_add_left db).1 d1
 ·have:a = S + b:=by omega
  rw [this]; exact Nat.dvd_add d1 db
 ·have:b = S + a:=by omega
  rw [this] at db; exact (Nat.dvd_add_right d1).1 db
theorem add_low {X1 Y1 X2 Y2 S G:Nat} (h1:Nat.gcd X1 Y1 = 1) (h2:Nat.gcd X2 Y2 = 1) (p1:0 < Y1) (p2:0 < Y2) (hG:Nat.gcd Y1 Y2 = G)
  (hS:S = X1 * (Y2 / G) + X2 * (Y1 / G) ∨ (S = X1 * (Y2 / G) - X2 * (Y1 / G) ∧ X2 * (Y1 / G) ≤ X1 * (Y2 / G)) ∨ (S = X2 * (Y1 / G) - X1 * (Y2 / G) ∧ X1 * (Y2 / G) ≤ X2 * (Y1 / G))) :
  Nat.gcd (S / Nat.gcd S G) (Y1 / G * (Y2 / G) * (G / Nat.gcd S G)) = 1:=by
 have hq:Nat.gcd (Y1 / G) (Y2 / G) = 1:=by rw [← hG]; exact cop_quot p2
 have d1:Y1 / G ∣ Y1:=Nat.div_dvd_of_dvd (by rw [← hG]; exact Nat.gcd_dvd_left _ _)
 have d2:Y2 / G ∣ Y2:=Nat.div_dvd_of_dvd (by rw [← hG]; exact Nat.gcd_dvd_right _ _)
 have hGp:0 < G:=by rw [← hG]; exact Nat.gcd_pos_of_pos_right _ p2
 generalize Y1 / G = y1 at *
 generalize Y2 / G = y2 at *
 have k1:Nat.gcd S y1 = 1:=cop_sum (cop_mul_left (cop_le h1 (Nat.dvd_refl _) d1) (by rw [Nat.gcd_comm]; exact hq)) (Nat.dvd_mul_left _ _) hS
 have k2:Nat.gcd S y2 = 1:=by
  refine cop_sum (a:=X2 * y1) (b:=X1 * y2) (cop_mul_left (cop_le h2 (Nat.dvd_refl _) d2) hq) (Nat.dvd_mul_left _ _) ?_
  rcases hS with e | e | e
  ·left; omega
  ·right; right; exact e
  ·right; left; exact e
 have ds:S / Nat.gcd S G ∣ S:=Nat.div_dvd_of_dvd (Nat.gcd_dvd_left _ _)
 exact cop_mul (cop_mul (cop_le k1 ds (Nat.dvd_refl _)) (cop_le k2 ds (Nat.dvd_refl _))) (cop_quot hGp)
theorem add_val {X1 Y1 X2 Y2 S G:Nat} {g1 g2 g:Bool} (hG:Nat.gcd Y1 Y2 = G) (p2:0 < Y2) (hS:nI g S = nI g1 (X1 * (Y2 / G)) + nI g2 (X2 * (Y1 / G))) :
  nI g (S / Nat.gcd S G) * ((Y1 * Y2:Nat):Int) = (nI g1 X1 * (Y2:Int) + nI g2 X2 * (Y1:Int)) * ((Y1 / G * (Y2 / G) * (G / Nat.gcd S G):Nat):Int):=by
 have e1:=div_of (show G ∣ Y1 by rw [← hG]; exact Nat.gcd_dvd_left _ _)
 have e2:=div_of (show G ∣ Y2 by rw [← hG]; exact Nat.gcd_dvd_right _ _)
 have e3:=div_of (Nat.gcd_dvd_left S G)
 have e4:=div_of (Nat.gcd_dvd_right S G)
 clear hG
 generalize Y1 / G = y1 at *
 generalize Y2 / G = y2 at *
 generalize S / Nat.gcd S G = s at *
 generalize G / Nat.gcd S G = t at *
 generalize Nat.gcd S G = C at *
 have hL:nI g1 X1 * (Y2:Int) + nI g2 X2 * (Y1:Int) = nI g S * (G:Int):=by
  rw [hS,nI_mul,nI_mul,e1,e2]
  push_cast
  simp only [Int.add_mul,Int.mul_assoc]
 rw [hL,show nI g S = nI g s * (C:Int) by rw [e3,nI_mul],e1,e2]
 clear hL hS
 have e5:(y1 * G * (y2 * G):Nat) = C * G * (y1 * y2 * t):=by
  have:y1 * G * (y2 * G) = y1 * (t * C) * (y2 * G):=by rw [← e4]
  rw [this]
  simp only [Nat.mul_comm,Nat.mul_left_comm]
 rw [e5]
 push_cast
 simp only [Int.mul_assoc]

theorem sgn_le {x:Int}:Int.sign x ≤ 0 ↔ x ≤ 0:=by
 rcases Int.lt_trichotomy x 0 with h | h | h
 ·rw [Int.sign_eq_neg_one_of_neg h]; omega
 ·rw [h]; simp
 ·rw [Int.sign_eq_one_of_pos h]; omega
theorem low_one {X1 Y1 X2 Y2:Nat} {g1 g2:Bool} (l1:Nat.gcd X1 Y1 = 1) (l2:Nat.gcd X2 Y2 = 1) (p1:0 < Y1) (p2:0 < Y2) (z1:g1 = true → X1 ≠ 0) (z2:g2 = true → X2 ≠ 0) (h:nI g1 X1 * (Y2:Int) = nI g2 X2 * (Y1:Int)):g1 = g2 ∧ X1 = X2 ∧ Y1 = Y2:=by
 have h':nI g1 (X1 * Y2) = nI g2 (X2 * Y1):=by rw [nI_mul,nI_mul]; exact h
 obtain ⟨hg,he⟩:=nI_inj h' (fun hg => Nat.ne_of_gt (Nat.mul_pos (Nat.pos_of_ne_zero (z1 hg)) p2)) (fun hg => Nat.ne_of_gt (Nat.mul_pos (Nat.pos_of_ne_zero (z2 hg)) p1))
 have d1:Y1 ∣ Y2:=by
  have:Y1 ∣ X1 * Y2:=by rw [he]; exact Nat.dvd_mul_left _ _
  exact Nat.Coprime.dvd_of_dvd_mul_left (by show Nat.gcd Y1 X1 = 1; rw [Nat.gcd_comm]; exact l1) this
 have d2:Y2 ∣ Y1:=by
  have:Y2 ∣ X2 * Y1:=by rw [← he]; exact Nat.dvd_mul_left _ _
  exact Nat.Coprime.dvd_of_dvd_mul_left (by show Nat.gcd Y2 X2 = 1; rw [Nat.gcd_comm]; exact l2) this
 have hy:Y1 = Y2:=Nat.dvd_antisymm d1 d2
 subst hy
 exact ⟨hg,Nat.eq_of_mul_eq_mul_right p1 he,rfl⟩

theorem cmpN_sign (a b:Nat):cmpN a b = Int.sign ((a:Int) - (b:Int)):=by
 rcases Nat.lt_trichotomy a b with h | h | h
 ·rw [cmpN_lt h,Int.sign_eq_neg_one_of_neg (by omega)]
 ·rw [cmpN_eq h,show (a:Int) - (b:Int) = 0 by omega]; rfl
 ·rw [cmpN_gt h,Int.sign_eq_one_of_pos (by omega)]
theorem val_zero_iff {x:List Nat} (m:MayL x = true):val x = 0 ↔ x = []:=by
 constructor
 ·intro h
  by_cases e:x = []
  ·exact e
  ·have:=val_pos_of_may m e; omega
 ·intro h; rw [h]; rfl
theorem mayR_neg {g:Bool} {x y:List Nat} (h:MayR g x y = true):g = true → val x ≠ 0:=fun hg e => (MayR.parts h).2.2.2.1 hg ((val_zero_iff (MayR.parts h).1).1 e)
theorem mayR_pos {g:Bool} {x y:List Nat} (h:MayR g x y = true):0 < val y:=val_pos_of_may (MayR.parts h).2.1 (MayR.parts h).2.2.1
theorem signR_sign {g:Bool} {x y:List Nat} (h:MayR g x y = true):signR g x = Int.sign (nI g (val x)):=by
 have hz:=val_zero_iff (MayR.parts h).1
 have hn:=mayR_neg h
 unfold signR nI
 cases g
 ·simp only [Bool.false_eq_true,if_false]
  by_cases e:x = []
  ·rw [if_pos e,hz.2 e]; rfl
  ·rw [if_neg e,Int.sign_eq_one_of_pos (by have:val x ≠ 0:=fun k => e (hz.1 k); omega)]
 ·simp only [if_true]
  have:=hn rfl
  rw [Int.sign_eq_neg_one_of_neg (by omega)]
theorem sgn_lt {p1 p2 q1 q2:Int} (h1:0 < q1) (h2:0 < q2) (h:Int.sign p1 < Int.sign p2):p1 * q2 < p2 * q1:=by
 rcases Int.lt_trichotomy p1 0 with a | a | a
 ·have k:=Int.mul_neg_of_neg_of_pos a h2
  rcases Int.lt_trichotomy p2 0 with b | b | b
  ·rw [Int.sign_eq_neg_one_of_neg a,Int.sign_eq_neg_one_of_neg b] at h; omega
  ·rw [b,Int.zero_mul]; exact k
  ·have:=Int.mul_pos b h1; omega
 ·rw [a,Int.zero_mul]
  rcases Int.lt_trichotomy p2 0 with b | b | b
  ·rw [a,Int.sign_eq_neg_one_of_neg b] at h; simp at h
  ·rw [a,b] at h; omega
  ·exact Int.mul_pos b h1
 ·rw [Int.sign_eq_one_of_pos a] at h
  rcases Int.lt_trichotomy p2 0 with b | b | b
  ·rw [Int.sign_eq_neg_one_of_neg b] at h; omega
  ·rw [b] at h; simp at h
  ·rw [Int.sign_eq_one_of_pos b] at h; omega
theorem cmpR_sign {g1 g2:Bool} {x1 y1 x2 y2:List Nat} (h1:MayR g1 x1 y1 = true) (h2:MayR g2 x2 y2 = true):cmpR g1 x1 y1 g2 x2 y2 = Int.sign (nI g1 (val x1) * (val y2:Int) - nI g2 (val x2) * (val y1:Int)):=by
 have n1:=mayR_neg h1
 have n2:=mayR_neg h2
 have p1:(0:Int) < (val y1:Int):=by have:=mayR_pos h1; omega
 have p2:(0:Int) < (val y2:Int):=by have:=mayR_pos h2; omega
 unfold cmpR
 rw [signR_sign h1,signR_sign h2]
 by_cases a:Int.sign (nI g1 (val x1)) < Int.sign (nI g2 (val x2))
 ·rw [if_pos a,Int.sign_eq_neg_one_of_neg (by have:=sgn_lt p1 p2 a; omega)]
 ·rw [if_neg a]
  by_cases b:Int.sign (nI g2 (val x2)) < Int.sign (nI g1 (val x1))
  ·rw [if_pos b,Int.sign_eq_one_of_pos (by have:=sgn_lt p2 p1 b; omega)]
  ·rw [if_neg b]
   have e:Int.sign (nI g1 (val x1)) = Int.sign (nI g2 (val x2)):=by omega
   cases g1
   ·have hg2:g2 = false:=by
     cases g2
     ·rfl
     ·exfalso
      have:=n2 rfl
      have h3:Int.sign (nI true (val x2)) = -1:=Int.sign_eq_neg_one_of_neg (by simp only [nI,if_true]; omega)
      rw [h3] at e
      have h4:(0:Int) ≤ nI false (val x1):=by simp only [nI]; simp
      rcases Int.lt_or_eq_of_le h4 with k | k
      ·rw [Int.sign_eq_one_of_pos k] at e; omega
      ·rw [← k] at e; simp at e
    subst hg2
    simp only [Bool.false_eq_true,if_false,nI]
    rw [cmpN_sign]
    push_cast
    rfl
   ·have hg2:g2 = true:=by
     cases g2
     ·exfalso
      have:=n1 rfl
      have h3:Int.sign (nI true (val x1)) = -1:=Int.sign_eq_neg_one_of_neg (by simp only [nI,if_true]; omega)
      rw [h3] at e
      have h4:(0:Int) ≤ nI false (val x2):=by simp only [nI]; simp
      rcases Int.lt_or_eq_of_le h4 with k | k
      ·rw [Int.sign_eq_one_of_pos k] at e; omega
      ·rw [← k] at e; simp at e
     ·rfl
    subst hg2
    simp only [if_true,nI]
    rw [cmpN_sign]
    push_cast
    congr 1
    rw [Int.neg_mul,Int.neg_mul]
    omega
theorem mayR_mk {g:Bool} {N M:Nat} (hN:bigN N = false) (hM:bigN M = false) (hp:0 < M) (hg:Nat.gcd N M = 1):MayR (g && decide (N ≠ 0)) (limbs N) (limbs M) = true:=by
 have kN:MayL (limbs N) = true:=MayL.mk (limbs_rep N).norm (by unfold bigN at hN; simpa using hN)
 have kM:MayL (limbs M) = true:=MayL.mk (limbs_rep M).norm (by unfold bigN at hM; simpa using hM)
 have zN:limbs N = [] ↔ N = 0:=by have:=val_zero_iff kN; rw [(limbs_rep N).val] at this; exact this.symm
 have zM:¬ limbs M = []:=fun e => by have:=val_zero_iff kM; rw [(limbs_rep M).val] at this; have:=this.2 e; omega
 unfold MayR
 rw [kN,kM,(limbs_rep N).val,(limbs_rep M).val,decide_eq_true hg]
 by_cases e:N = 0
 ·subst e; simp [zM]
 ·have e2:¬ limbs N = []:=fun k => e (zN.1 k)
  simp [zM,e2]
theorem cmbV_val (g1 g2:Bool) (P Q:Nat):nI (cmbV g1 P g2 Q).2 (cmbV g1 P g2 Q).1 = nI g1 P + nI g2 Q:=by
 unfold cmbV
 by_cases h:g1 = g2
 ·subst h
  simp only [if_true]
  cases g1 <;> simp [nI] <;> omega
 ·rw [if_neg h]
  by_cases k:P < Q
  ·rw [if_pos k]
   cases g1 <;> cases g2 <;> simp [nI] at h ⊢ <;> omega
  ·rw [if_neg k]
   cases g1 <;> cases g2 <;> simp [nI] at h ⊢ <;> omega
theorem cmbV_abs (g1 g2:Bool) (P Q:Nat):(cmbV g1 P g2 Q).1 = P + Q ∨ ((cmbV g1 P g2 Q).1 = P - Q ∧ Q ≤ P) ∨ ((cmbV g1 P g2 Q).1 = Q - P ∧ P ≤ Q):=by
 unfold cmbV
 by_cases h:g1 = g2
 ·rw [if_pos h]; exact .inl rfl
 ·rw [if_neg h]
  by_cases k:P < Q
  ·rw [if_pos k]; exact .inr (.inr ⟨rfl,by omega⟩)
  ·rw [if_neg k]; exact .inr (.inl ⟨rfl,by omega⟩)
theorem div_pos_of_dvd {a b:Nat} (h:b ∣ a) (ha:0 < a):0 < a / b:=Nat.div_pos (Nat.le_of_dvd ha h) (Nat.pos_of_dvd_of_pos h ha)
theorem mulR_may {g1 g2:Bool} {x1 y1 x2 y2:List Nat} (h1:MayR g1 x1 y1 = true) (h2:MayR g2 x2 y2 = true) (hN:bigN (mulN x1 y1 x2 y2) = false) (hM:bigN (mulD x1 y1 x2 y2) = false) :
  MayR ((g1 != g2) && decide (mulN x1 y1 x2 y2 ≠ 0)) (limbs (mulN x1 y1 x2 y2)) (limbs (mulD x1 y1 x2 y2)) = true ∧ nI ((g1 != g2) && decide (mulN x1 y1 x2 y2 ≠ 0)) (mulN x1 y1 x2 y2) * ((val y1:Int) * (val y2:Int)) = nI g1 (val x1) * nI g2 (val x2) * (mulD x1 y1 x2 y2:Int):=by
 have p1:=mayR_pos h1
 have p2:=mayR_pos h2
 refine ⟨mayR_mk hN hM ?_ (mul_low (MayR.parts h1).2.2.2.2 (MayR.parts h2).2.2.2.2 p1 p2),?_⟩
 ·exact Nat.mul_pos (div_pos_of_dvd (Nat.gcd_dvd_right _ _) p1) (div_pos_of_dvd (Nat.gcd_dvd_right _ _) p2)
 ·rw [nI_and,← nI_xor]
  have e:=mul_val (X1:=val x1) (Y1:=val y1) (X2:=val x2) (Y2:=val y2) p1 p2
  have e2:((val y1:Int) * (val y2:Int)) = ((val y1 * val y2:Nat):Int):=by push_cast; rfl
  rw [e2,← nI_mul,← nI_mul]
  exact congrArg _ e
theorem addR_may {g1 g2:Bool} {x1 y1 x2 y2:List Nat} (l1:Nat.gcd (val x1) (val y1) = 1) (l2:Nat.gcd (val x2) (val y2) = 1) (p1:0 < val y1) (p2:0 < val y2) (hN:bigN (adN g1 x1 y1 g2 x2 y2) = false) (hM:bigN (adD g1 x1 y1 g2 x2 y2) = false) :
  MayR ((adS g1 x1 y1 g2 x2 y2).2 && decide (adN g1 x1 y1 g2 x2 y2 ≠ 0)) (limbs (adN g1 x1 y1 g2 x2 y2)) (limbs (adD g1 x1 y1 g2 x2 y2)) = true ∧ nI ((adS g1 x1 y1 g2 x2 y2).2 && decide (adN g1 x1 y1 g2 x2 y2 ≠ 0)) (adN g1 x1 y1 g2 x2 y2) * ((val y1:Int) * (val y2:Int)) = (nI g1 (val x1) * (val y2:Int) + nI g2 (val x2) * (val y1:Int)) * (adD g1 x1 y1 g2 x2 y2:Int):=by
 have hGp:0 < adG y1 y2:=Nat.gcd_pos_of_pos_right _ p2
 have hD:0 < adD g1 x1 y1 g2 x2 y2:=by
  unfold adD adC
  exact Nat.mul_pos (Nat.mul_pos (div_pos_of_dvd (Nat.gcd_dvd_left _ _) p1) (div_pos_of_dvd (Nat.gcd_dvd_right _ _) p2)) (div_pos_of_dvd (Nat.gcd_dvd_right _ _) hGp)
 refine ⟨mayR_mk hN hM hD (add_low (G:=adG y1 y2) l1 l2 p1 p2 rfl (cmbV_abs g1 g2 _ _)),?_⟩
 rw [nI_and]
 have e2:((val y1:Int) * (val y2:Int)) = ((val y1 * val y2:Nat):Int):=by push_cast; rfl
 rw [e2]
 exact add_val (G:=adG y1 y2) rfl p2 (cmbV_val g1 g2 _ _)
def AddF (g1:Bool) (x1 y1:List Nat) (g2:Bool) (x2 y2:List Nat):(Bool × List Nat × List Nat) × Int :=
 if MayR g1 x1 y1 && MayR g2 x2 y2 then (if bigN (adN g1 x1 y1 g2 x2 y2) || bigN (adD g1 x1 y1 g2 x2 y2) then ((false,[],[]),2) else (((adS g1 x1 y1 g2 x2 y2).2 && decide (adN g1 x1 y1 g2 x2 y2 ≠ 0),limbs (adN g1 x1 y1 g2 x2 y2),limbs (adD g1 x1 y1 g2 x2 y2)),0)) else ((false,[],[]),40)
theorem ratAdd_any (g1 g2:Bool) (a1 b1 a2 b2:Option Addr) (n1 c1 m1 d1 n2 c2 m2 d2:Nat) (x1 y1 x2 y2:List Nat) (w:World) (hx1:Sl w a1 n1 c1 x1) (hy1:Sl w b1 m1 d1 y1) (hx2:Sl w a2 n2 c2 x2) (hy2:Sl w b2 m2 d2 y2) (ox1:Ok x1) (oy1:Ok y1) (ox2:Ok x2) (oy2:Ok y2) (hT:Tab64 w) :
  Calls Tryz.prog 38 #[ratV g1 a1 n1 c1 b1 m1 d1,ratV g2 a2 n2 c2 b2 m2 d2] w fun e w' => ResR w w' (AddF g1 x1 y1 g2 x2 y2).1.1 (AddF g1 x1 y1 g2 x2 y2).1.2.1 (AddF g1 x1 y1 g2 x2 y2).1.2.2 (AddF g1 x1 y1 g2 x2 y2).2 e:=by
 refine ratAdd_face g1 g2 a1 b1 a2 b2 n1 c1 m1 d1 n2 c2 m2 d2 x1 y1 x2 y2 w hx1 hy1 hx2 hy2 ox1 oy1 ox2 oy2 hT _ _ _ _ (fun hm W hb => ?_) (fun hm => ?_)
 ·have h12:MayR g1 x1 y1 = true ∧ MayR g2 x2 y2 = true:=by simpa using hm
  obtain ⟨ka1,kb1,e1,_,_⟩:=MayR.parts h12.1
  obtain ⟨ka2,kb2,e2,_,_⟩:=MayR.parts h12.2
  refine (ratadd_any g1 g2 a1 b1 a2 b2 n1 c1 m1 d1 n2 c2 m2 d2 x1 y1 x2 y2 W (hx1.below hb) (hy1.below hb) (hx2.below hb) (hy2.below hb) ox1 oy1 ox2 oy2 ka1 kb1 ka2 kb2 e1 e2 (hT.below hb) (by_any W)).mono (fun e w' h => ?_)
  unfold MuPost at h
  unfold AddF
  rw [if_pos hm]
  split at h
  ·rename_i hbig
   rw [if_pos hbig]
   exact h
  ·rename_i hbig
   rw [if_neg hbig]
   exact h
 ·unfold AddF
  rw [hm]
  exact ⟨rfl,rfl,rfl,rfl⟩

def SubF (g1:Bool) (x1 y1:List Nat) (g2:Bool) (x2 y2:List Nat):(Bool × List Nat × List Nat) × Int :=
 if MayR g1 x1 y1 && MayR g2 x2 y2 then (if bigN (adN g1 x1 y1 (!g2) x2 y2) || bigN (adD g1 x1 y1 (!g2) x2 y2) then ((false,[],[]),2) else (((adS g1 x1 y1 (!g2) x2 y2).2 && decide (adN g1 x1 y1 (!g2) x2 y2 ≠ 0),limbs (adN g1 x1 y1 (!g2) x2 y2),limbs (adD g1 x1 y1 (!g2) x2 y2)),0)) else ((false,[],[]),40)
theorem ratSub_any (g1 g2:Bool) (a1 b1 a2 b2:Option Addr) (n1 c1 m1 d1 n2 c2 m2 d2:Nat) (x1 y1 x2 y2:List Nat) (w:World) (hx1:Sl w a1 n1 c1 x1) (hy1:Sl w b1 m1 d1 y1) (hx2:Sl w a2 n2 c2 x2) (hy2:Sl w b2 m2 d2 y2) (ox1:Ok x1) (oy1:Ok y1) (ox2:Ok x2) (oy2:Ok y2) (hT:Tab64 w) :
  Calls Tryz.prog 10 #[ratV g1 a1 n1 c1 b1 m1 d1,ratV g2 a2 n2 c2 b2 m2 d2] w fun e w' => ResR w w' (SubF g1 x1 y1 g2 x2 y2).1.1 (SubF g1 x1 y1 g2 x2 y2).1.2.1 (SubF g1 x1 y1 g2 x2 y2).1.2.2 (SubF g1 x1 y1 g2 x2 y2).2 e:=by
 refine ratSub_face g1 g2 a1 b1 a2 b2 n1 c1 m1 d1 n2 c2 m2 d2 x1 y1 x2 y2 w hx1 hy1 hx2 hy2 ox1 oy1 ox2 oy2 hT _ _ _ _ (fun hm W hb => ?_) (fun hm => ?_)
 ·have h12:MayR g1 x1 y1 = true ∧ MayR g2 x2 y2 = true:=by simpa using hm
  obtain ⟨ka1,kb1,e1,_,_⟩:=MayR.parts h12.1
  obtain ⟨ka2,kb2,e2,_,_⟩:=MayR.parts h12.2
  refine ratsubtract_any g1 g2 a1 b1 a2 b2 n1 c1 m1 d1 n2 c2 m2 d2 W _ _ _ _ (fun W2 hb2 => ?_)
  have hb3:=hb.trans (hb2.mono hb.size)
  refine (ratadd_any g1 (!g2) a1 b1 a2 b2 n1 c1 m1 d1 n2 c2 m2 d2 x1 y1 x2 y2 W2 (hx1.below hb3) (hy1.below hb3) (hx2.below hb3) (hy2.below hb3) ox1 oy1 ox2 oy2 ka1 kb1 ka2 kb2 e1 e2 (hT.below hb3) (by_any W2)).mono (fun e w' h => ?_)
  unfold MuPost at h
  unfold SubF
  rw [if_pos hm]
  split at h
  ·rename_i hbig
   rw [if_pos hbig]
   exact h
  ·rename_i hbig
   rw [if_neg hbig]
   exact h
 ·unfold SubF
  rw [hm]
  exact ⟨rfl,rfl,rfl,rfl⟩

theorem addF_ok {g1 g2:Bool} {x1 y1 x2 y2:List Nat} (h1:MayR g1 x1 y1 = true) (h2:MayR g2 x2 y2 = true) (h0:(AddF g1 x1 y1 g2 x2 y2).2 = 0) :
  ∃ g N D,AddF g1 x1 y1 g2 x2 y2 = ((g,limbs N,limbs D),0) ∧ MayR g (limbs N) (limbs D) = true ∧ 0 < D ∧ nI g N * ((val y1:Int) * (val y2:Int)) = (nI g1 (val x1) * (val y2:Int) + nI g2 (val x2) * (val y1:Int)) * (D:Int):=by
 unfold AddF at h0 ⊢
 rw [h1,h2] at h0 ⊢
 simp only [Bool.and_self,if_true] at h0 ⊢
 split at h0
 ·simp at h0
 ·rename_i hb
  rw [if_neg hb]
  have hb':bigN (adN g1 x1 y1 g2 x2 y2) = false ∧ bigN (adD g1 x1 y1 g2 x2 y2) = false:=by simpa using hb
  obtain ⟨m,e⟩:=addR_may (MayR.parts h1).2.2.2.2 (MayR.parts h2).2.2.2.2 (mayR_pos h1) (mayR_pos h2) hb'.1 hb'.2
  exact ⟨_,_,_,rfl,m,by have:=mayR_pos m; rwa [(limbs_rep _).val] at this,e⟩
theorem mulF_ok {g1 g2:Bool} {x1 y1 x2 y2:List Nat} (h1:MayR g1 x1 y1 = true) (h2:MayR g2 x2 y2 = true) (h0:(MulF g1 x1 y1 g2 x2 y2).2 = 0) :
  ∃ g N D,MulF g1 x1 y1 g2 x2 y2 = ((g,limbs N,limbs D),0) ∧ MayR g (limbs N) (limbs D) = true ∧ 0 < D ∧ nI g N * ((val y1:Int) * (val y2:Int)) = nI g1 (val x1) * nI g2 (val x2) * (D:Int):=by
 unfold MulF at h0 ⊢
 rw [h1,h2] at h0 ⊢
 simp only [Bool.and_self,if_true] at h0 ⊢
 split at h0
 ·simp at h0
 ·rename_i hb
  rw [if_neg hb]
  have hb':bigN (mulN x1 y1 x2 y2) = false ∧ bigN (mulD x1 y1 x2 y2) = false:=by simpa using hb
  obtain ⟨m,e⟩:=mulR_may h1 h2 hb'.1 hb'.2
  exact ⟨_,_,_,rfl,m,by have:=mayR_pos m; rwa [(limbs_rep _).val] at this,e⟩
def FnB (w:World) (b off n:Nat) (f:Nat → Nat):Prop :=
 ∀ i,i < n → w.cell? ⟨b,off + i,none⟩ = some (.int .u8 (f i:Nat)) ∧ w.frozen? ⟨b,off + i,none⟩ = false
theorem FnB.set {w:World} {b off n:Nat} {f:Nat → Nat} (h:FnB w b off n f) (k v:Nat) (hk:k < n) :
  FnB (w.setCell ⟨b,off + k,none⟩ (.int .u8 (v:Nat))) b off n (fun i => if i = k then v else f i):=by
 intro i hi
 refine ⟨?_,by rw [World.frozen?_setCell]; exact (h i hi).2⟩
 by_cases e:i = k
 ·subst e
  rw [World.cell?_setCell_same _ _ _ (h i hi).1]
  simp
 ·rw [World.cell?_setCell_other _ _ _ _ (by intro h; injection h with h1 h2; omega)]
  simp [e,(h i hi).1]
theorem FnB.congr {w:World} {b off n:Nat} {f g:Nat → Nat} (h:FnB w b off n f) (he:∀ i,i < n → f i = g i):FnB w b off n g:=fun i hi => by
 have:=h i hi
 rwa [he i hi] at this
theorem FnB.made (w:World) (n:Nat) (e:TypeId):FnB (w.alloc (.cells (madeCells #[.int .u8 0] n) e)) w.heap.size 0 n (fun _ => 0):=by
 intro i hi
 refine ⟨?_,by simp⟩
 simp [madeCells,hi,Nat.mod_one]

theorem Tryz.info_u8:(Tryz.prog.info? 5).map (fun i => (i.zero,i.size,i.bytes)) = some (some (.int .u8 0),1,1):=by kernel_rfl
theorem own_len {w:World} {base k:Nat} {e:TypeId} {v:Value} {ws:List Value} (h:w.ownsRow base e 1 v k ws):∃ a c,v = .slice a k c:=by
 rcases h.2 with ⟨e,h0⟩ | ⟨g,cap,cur,e,hb,h5,h6,h7,h8,h9⟩
 ·subst e h0
  exact ⟨none,0,rfl⟩
 ·subst e
  exact ⟨_,_,rfl⟩
structure SlB (w:World) (a:Option Addr) (n c:Nat) (bs:List Nat):Prop where
 len:bs.length = n
 le:n ≤ c
 ok:∀ x ∈ bs,x < 256
 cells:bs = [] ∨ ∃ b off,a = some ⟨b,off,none⟩ ∧ ∀ i,i < bs.length → w.cell? ⟨b,off + i,none⟩ = some (.int .u8 (bs.getD i 0:Nat))


def strB (bs:List Nat):ByteArray:=strOfNums (bs.map (fun x:Nat => (x:Int)))

theorem SlB.conv {w:World} {a:Option Addr} {n c:Nat} {bs:List Nat} (h:SlB w a n c bs) :
  (convert 207 9 (.slice a n c)).run Tryz.prog w = .ok (.string (strB bs)) w:=by
 have hl:=h.len
 cases a with
 | none =>
  rcases h.cells with e | ⟨b,off,e,_⟩
  ·subst e
   exact run_convert_bytes_nil w 207 5 Tryz.underlying207 Tryz.underlying5 n c 9 Tryz.underlying9
  ·cases e
 | some x =>
  rcases h.cells with e | ⟨b,off,e,hc⟩
  ·subst e
   simp at hl
   subst hl
   rw [run_convert_bytes_string w 207 9 5 _ 0 c Tryz.underlying207 Tryz.underlying5 Tryz.underlying9,run_bytesToString w x 0 c [] (by simpa using run_loadCells_list (P:=Tryz.prog) w x [] (by simp))]
   rfl
  ·cases e
   refine run_convert_bytes_arg w 207 5 Tryz.underlying207 Tryz.underlying5 b off n c (bs.map (fun x:Nat => (x:Int))) (by simpa using hl) (fun i hi => ?_) 9 Tryz.underlying9
   rw [hc i (by omega)]
   congr 2
   simp only [List.getD_eq_getElem?_getD,List.getElem?_map]
   cases bs[i]? <;> rfl
theorem lst_mem {f:Nat → Nat} {n x:Nat} (h:x ∈ lst f n):∃ i,i < n ∧ f i = x:=by
 simpa [lst] using h
def dgt (V b i:Nat):Nat:=V / b ^ i % b
def chrN (d:Nat):Nat:=if d < 10 then 48 + d else 87 + d
structure TxtOf (V b n:Nat):Prop where
 pos:1 ≤ n
 lt:V < b ^ n
 ge:n = 1 ∨ b ^ (n - 1) ≤ V

theorem TxtOf.le {V b n m:Nat} (hb:2 ≤ b) (h:TxtOf V b n) (g:TxtOf V b m):n ≤ m:=by
 rcases h.ge with e | e
 ·have:=g.pos; omega
 ·rcases Nat.lt_or_ge m n with k | k
  ·exfalso
   have h1:b ^ m ≤ b ^ (n - 1):=Nat.pow_le_pow_right (by omega) (by omega)
   have:=g.lt
   omega
  ·exact k
theorem TxtOf.uniq {V b n m:Nat} (hb:2 ≤ b) (h:TxtOf V b n) (g:TxtOf V b m):n = m:=Nat.le_antisymm (h.le hb g) (g.le hb h)

theorem dgt_lt (V i:Nat) {b:Nat} (hb:0 < b):dgt V b i < b:=Nat.mod_lt _ hb
theorem dgt_div (V b i j:Nat):dgt (V / b ^ i) b j = dgt V b (i + j):=by
 unfold dgt
 rw [Nat.div_div_eq_div_mul,← Nat.pow_add]
theorem dgt_mod (V b:Nat) {i j:Nat} (hb:0 < b) (h:j < i):dgt (V % b ^ i) b j = dgt V b j:=by
 unfold dgt
 obtain ⟨k,rfl⟩:∃ k,i = j + (k + 1):=⟨i - j - 1,by omega⟩
 rw [Nat.pow_add,Nat.mod_mul_right_div_self,Nat.pow_succ,Nat.mul_comm,Nat.mod_mul_right_mod]
theorem chrN_lt {d:Nat} (h:d < 36):chrN d < 256:=by unfold chrN; split <;> omega
theorem chrN_zero {d:Nat} (h:d < 36):chrN d = 48 ↔ d = 0:=by unfold chrN; split <;> omega

def txtL (V b n:Nat):List Nat:=lst (fun p => chrN (dgt V b (n - 1 - p))) n

open Go.RowKit Go.Deep
set_option linter.unusedVariables false

theorem ownsRow_below {w w':World} {base:Nat} {e:TypeId} {size:Nat} {v:Value} {n:Nat} {xs:List Value} (h:w.ownsRow base e size v n xs) (k:Below w.heap.size w w'):w'.ownsRow base e size v n xs:=by
 refine ⟨h.1,?_⟩
 rcases h.2 with e0 | ⟨g,cap,cur,e0,hb,h5,h6,h7,h8,h9⟩
 ·exact .inl e0
 ·exact .inr ⟨g,cap,cur,e0,hb,by rw [k.block g (by
   rcases Nat.lt_or_ge g w.heap.size with hlt | hge
   ·exact hlt
   ·simp [Array.getElem?_eq_none hge] at h5)]; exact h5,h6,h7,h8,h9⟩

inductive PrIs (xs:List Nat) (b:Int):ByteArray → Int → Prop where
 | nat (h:MayL xs = false):PrIs xs b (strB []) 20
 | base (h:MayL xs = true) (hb:¬ (2 ≤ b ∧ b ≤ 36)):PrIs xs b (strB []) 22
 | text (n:Nat) (h:MayL xs = true) (hb:2 ≤ b ∧ b ≤ 36) (ht:TxtOf (val xs) b.toNat n):PrIs xs b (strB (txtL (val xs) b.toNat n)) 0

def PrPost (xs:List Nat) (b:Int) (w:World) (e:Ending) (w':World):Prop :=
 ∃ s er,e = .returned (.tuple #[.string s,.int .i64 er]) ∧ PrIs xs b s er ∧ Below w.heap.size w w'

theorem FnB.slB {w:World} {b off n c:Nat} {f:Nat → Nat} (h:FnB w b off n f) (hc:n ≤ c) (hf:∀ i,i < n → f i < 256):SlB w (some ⟨b,off,none⟩) n c (lst f n):=by
 refine ⟨lst_len _ _,hc,fun x hx => ?_,.inr ⟨b,off,rfl,fun i hi => ?_⟩⟩
 ·obtain ⟨i,hi,rfl⟩:=lst_mem hx
  exact hf i hi
 ·rw [lst_len] at hi
  rw [lst_getD f n i hi]
  exact (h i hi).1
theorem chr_ok (V:Nat) {b:Nat} (hb:2 ≤ b) (hb2:b ≤ 36) (i:Nat):chrN (dgt V b i) < 256:=chrN_lt (by have:=dgt_lt V i (b:=b) (by omega); omega)

open Go.RowKit Go.Deep
set_option linter.unusedVariables false
end Go.Proofs.YtmmeiebbnjjijaaGreatDoor
namespace Go.Proofs.YtmmeiebbnjjijaaGreatDoor
open Go.RowKit Go.Deep
set_option linter.unusedVariables false
open Go.RowKit Go.Deep
set_option linter.unusedVariables false
structure Chunk (b c:Nat):Prop where
 pos:1 ≤ c
 le:c ≤ 31
 lt:b ^ c < 4294967296
 ge:4294967296 ≤ b ^ c * b

def ChPost (b:Nat) (w:World) (e:Ending) (w':World):Prop :=
 ∃ c,Chunk b c ∧ e = .returned (.tuple #[.int .i64 (c:Nat),.int .u32 (b ^ c:Nat)]) ∧ w' = w

theorem chunk_le {b c:Nat} (hb:2 ≤ b) (h:b ^ c < 4294967296):c ≤ 31:=by
 have h1:2 ^ c ≤ b ^ c:=Nat.pow_le_pow_left hb c
 have h2:2 ^ c < 2 ^ 32:=Nat.lt_of_le_of_lt h1 h
 have:=(Nat.pow_lt_pow_iff_right (by decide:1 < 2)).1 h2
 omega

set_option maxHeartbeats 4000000 in
theorem chunk_any (b:Nat) (hb:2 ≤ b) (hb2:b ≤ 36) (w:World) :
  Calls Tryz.prog 195 #[.int .i64 (b:Nat)] w fun e w' => ChPost b w e w':=by
 go_enter Tryz.func195,Tryz.ntmps195
 go_wp2_with fail
 go_loop [4,5] (fun cv wv => ∃ c:Nat,1 ≤ c ∧ b ^ c < 4294967296 ∧ cv = .int .i64 (c:Nat) ∧ wv = .int .u64 (b ^ c:Nat)) (fun cv _ => 32 - (intOf cv).toNat)
 case atStart => exact ⟨1,Nat.le_refl _,by simp; omega,rfl,by simp⟩
 case round =>
  obtain ⟨c,hc,hlt,rfl,rfl⟩:=hrel
  have hc31:=chunk_le hb hlt
  have hb36:b ^ c * b ≤ b ^ c * 36:=Nat.mul_le_mul_left _ hb2
  obtain ⟨p,hp⟩:∃ p,b ^ c * b = p:=⟨_,rfl⟩
  have hp1:b ^ (c + 1) = p:=by rw [Nat.pow_succ,hp]
  obtain ⟨W,hW⟩:∃ W,b ^ c = W:=⟨_,rfl⟩
  rw [hW] at hb36 hlt hp
  have e1:(W:Int) * (b:Int) = (p:Int):=by rw [← hp,Int.natCast_mul]
  rw [hp] at hb36
  have hp64:p < 18446744073709551616:=by omega
  have HW:=Hd hW
  have HP:=Hd hp1
  have HQ:=Hd hp
  by_cases hs:p < 4294967296
  ·have q1:(p:Int) / 4294967296 = 0:=by omega
   rw [hW]
   clear hW hp1 hp
   go_wp2_with fail
   exact ⟨⟨c + 1,by omega,by rw [Uh HP]; exact hs,by go_num,by rw [Uh HP]⟩,by simp [intOf]; omega⟩
  ·obtain ⟨q,hq⟩:∃ q,p / 4294967296 = q:=⟨_,rfl⟩
   have q1:(p:Int) / 4294967296 = (q:Int):=by omega
   have q2:((q:Int) == 0) = false:=by simp; omega
   have q3:¬ (q:Int) = 0:=by omega
   rw [hW]
   clear hW hp1 hp hq
   go_wp2_with fail
   go_ret2
   have HR:b ^ c * b = p:=by rw [Uh HW]; exact Uh HQ
   refine ⟨c,⟨hc,hc31,by rw [Uh HW]; exact hlt,by rw [HR]; omega⟩,by rw [Uh HW]; rfl,rfl⟩

set_option maxHeartbeats 4000000 in
theorem isBase_any (b:Int) (w:World) :
  Calls Tryz.prog 178 #[.int .i64 b] w fun e w' => e = .returned (.bool (decide (2 ≤ b ∧ b ≤ 36))) ∧ w' = w:=by
 by_cases h1:2 ≤ b
 ·by_cases h2:b ≤ 36
  ·go_enter Tryz.func178,Tryz.ntmps178
   go_wp2_with fail
   go_ret
   simp [h1,h2]
  ·go_enter Tryz.func178,Tryz.ntmps178
   go_wp2_with fail
   go_ret
   simp; omega
 ·go_enter Tryz.func178,Tryz.ntmps178
  go_wp2_with fail
  go_ret
  simp; omega
end Go.Proofs.YtmmeiebbnjjijaaGreatDoor
