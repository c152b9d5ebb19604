/- Wiq -/
import Derived.Test.YtmnlhnmlgncedaaGreatDoorWil
import Derived.Test.YtmnlhnmlgncedaaGreatDoorWik
import Derived.Test.YtmnlhnmlgncedaaGreatDoorWij
import Derived.Test.YtmnlhnmlgncedaaGreatDoorWip
import Derived.Test.YtmnlhnmlgncedaaGreatDoorWii
namespace Go.Proofs.YtmnlhnmlgncedaaGreatDoor
open Go.RowKit Go.Deep
set_option linter.unusedVariables false
def nI (g:Bool) (v:Nat):Int:=if g then -(v:Int) else (v:Int)
theorem nI_mul (g:Bool) (v k:Nat):nI g (v * k) = nI g v * (k:Int):=by
 cases g <;> simp [nI,Int.neg_mul]
theorem nI_xor (g h:Bool) (u v:Nat):nI (g != h) (u * v) = nI g u * nI h v:=by
 cases g <;> cases h <;> simp [nI,Int.neg_mul,Int.mul_neg]
theorem nI_and (g:Bool) (v:Nat):nI (g && decide (v ≠ 0)) v = nI g v:=by
 cases g
 ·rfl
 ·by_cases h:v = 0
  ·subst h; rfl
  ·simp [nI,h]
theorem cop_of {a b:Nat} (h:∀ d,d ∣ a → d ∣ b → d = 1):Nat.gcd a b = 1:=h _ (Nat.gcd_dvd_left a b) (Nat.gcd_dvd_right a b)
theorem cop_dvd {a b d:Nat} (h:Nat.gcd a b = 1) (h1:d ∣ a) (h2:d ∣ b):d = 1:=Nat.dvd_one.1 (h ▸ Nat.dvd_gcd h1 h2)
theorem cop_mul {a b c:Nat} (h1:Nat.gcd a b = 1) (h2:Nat.gcd a c = 1):Nat.gcd a (b * c) = 1:=Nat.Coprime.mul_right h1 h2
theorem cop_mul_left {a b c:Nat} (h1:Nat.gcd a c = 1) (h2:Nat.gcd b c = 1):Nat.gcd (a * b) c = 1:=by
 rw [Nat.gcd_comm]; exact cop_mul (by rw [Nat.gcd_comm]; exact h1) (by rw [Nat.gcd_comm]; exact h2)
theorem cop_le {a b a' b':Nat} (h:Nat.gcd a b = 1) (h1:a' ∣ a) (h2:b' ∣ b):Nat.gcd a' b' = 1:=cop_of fun _ d1 d2 => cop_dvd h (Nat.dvd_trans d1 h1) (Nat.dvd_trans d2 h2)
theorem cop_quot {a b:Nat} (hb:0 < b):Nat.gcd (a / Nat.gcd a b) (b / Nat.gcd a b) = 1:=by
 have hg:0 < Nat.gcd a b:=Nat.gcd_pos_of_pos_right _ hb
 rw [Nat.gcd_div (Nat.gcd_dvd_left _ _) (Nat.gcd_dvd_right _ _)]
 exact Nat.div_self hg
theorem div_of {a b:Nat} (h:b ∣ a):a = a / b * b:=(Nat.div_mul_cancel h).symm
theorem mul_low {X1 Y1 X2 Y2:Nat} (h1:Nat.gcd X1 Y1 = 1) (h2:Nat.gcd X2 Y2 = 1) (p1:0 < Y1) (p2:0 < Y2) :
  Nat.gcd (X1 / Nat.gcd X1 Y2 * (X2 / Nat.gcd X2 Y1)) (Y1 / Nat.gcd X2 Y1 * (Y2 / Nat.gcd X1 Y2)) = 1:=by
 have a1:X1 / Nat.gcd X1 Y2 ∣ X1:=Nat.div_dvd_of_dvd (Nat.gcd_dvd_left _ _)
 have a2:X2 / Nat.gcd X2 Y1 ∣ X2:=Nat.div_dvd_of_dvd (Nat.gcd_dvd_left _ _)
 have b1:Y1 / Nat.gcd X2 Y1 ∣ Y1:=Nat.div_dvd_of_dvd (Nat.gcd_dvd_right _ _)
 have b2:Y2 / Nat.gcd X1 Y2 ∣ Y2:=Nat.div_dvd_of_dvd (Nat.gcd_dvd_right _ _)
 exact cop_mul_left (cop_mul (cop_le h1 a1 b1) (cop_quot p2)) (cop_mul (cop_quot p1) (cop_le h2 a2 b2))
theorem mul_val {X1 Y1 X2 Y2:Nat} (p1:0 < Y1) (p2:0 < Y2) :
  X1 / Nat.gcd X1 Y2 * (X2 / Nat.gcd X2 Y1) * (Y1 * Y2) = X1 * X2 * (Y1 / Nat.gcd X2 Y1 * (Y2 / Nat.gcd X1 Y2)):=by
 have a1:=div_of (Nat.gcd_dvd_left X1 Y2)
 have a2:=div_of (Nat.gcd_dvd_left X2 Y1)
 have b1:=div_of (Nat.gcd_dvd_right X2 Y1)
 have b2:=div_of (Nat.gcd_dvd_right X1 Y2)
 generalize X1 / Nat.gcd X1 Y2 = x1 at *
 generalize X2 / Nat.gcd X2 Y1 = x2 at *
 generalize Y1 / Nat.gcd X2 Y1 = y1 at *
 generalize Y2 / Nat.gcd X1 Y2 = y2 at *
 generalize Nat.gcd X1 Y2 = g at *
 generalize Nat.gcd X2 Y1 = h at *
 rw [a1,a2,b1,b2]
 simp only [Nat.mul_comm,Nat.mul_left_comm]
theorem cop_sum {a b y S:Nat} (h:Nat.gcd a y = 1) (hb:y ∣ b) (hS:S = a + b ∨ (S = a - b ∧ b ≤ a) ∨ (S = b - a ∧ a ≤ b)):Nat.gcd S y = 1:=by
 refine cop_of fun d d1 d2 => cop_dvd h ?_ d2
 have db:d ∣ b:=Nat.dvd_trans d2 hb
 rcases hS with e | ⟨e,hle⟩ | ⟨e,hle⟩
 ·rw [e] at d1; exact (Nat.dvd_add_left db).1 d1
 ·have:a = S + b:=by omega
  rw [this]; exact Nat.dvd_add d1 db
 ·have:b = S + a:=by omega
  rw [this] at db; exact (Nat.dvd_add_right d1).1 db
theorem add_low {X1 Y1 X2 Y2 S G:Nat} (h1:Nat.gcd X1 Y1 = 1) (h2:Nat.gcd X2 Y2 = 1) (p1:0 < Y1) (p2:0 < Y2) (hG:Nat.gcd Y1 Y2 = G)
  (hS:S = X1 * (Y2 / G) + X2 * (Y1 / G) ∨ (S = X1 * (Y2 / G) - X2 * (Y1 / G) ∧ X2 * (Y1 / G) ≤ X1 * (Y2 / G)) ∨ (S = X2 * (Y1 / G) - X1 * (Y2 / G) ∧ X1 * (Y2 / G) ≤ X2 * (Y1 / G))) :
  Nat.gcd (S / Nat.gcd S G) (Y1 / G * (Y2 / G) * (G / Nat.gcd S G)) = 1:=by
 have hq:Nat.gcd (Y1 / G) (Y2 / G) = 1:=by rw [← hG]; exact cop_quot p2
 have d1:Y1 / G ∣ Y1:=Nat.div_dvd_of_dvd (by rw [← hG]; exact Nat.gcd_dvd_left _ _)
 have d2:Y2 / G ∣ Y2:=Nat.div_dvd_of_dvd (by rw [← hG]; exact Nat.gcd_dvd_right _ _)
 have hGp:0 < G:=by rw [← hG]; exact Nat.gcd_pos_of_pos_right _ p2
 generalize Y1 / G = y1 at *
 generalize Y2 / G = y2 at *
 have k1:Nat.gcd S y1 = 1:=cop_sum (cop_mul_left (cop_le h1 (Nat.dvd_refl _) d1) (by rw [Nat.gcd_comm]; exact hq)) (Nat.dvd_mul_left _ _) hS
 have k2:Nat.gcd S y2 = 1:=by
  refine cop_sum (a:=X2 * y1) (b:=X1 * y2) (cop_mul_left (cop_le h2 (Nat.dvd_refl _) d2) hq) (Nat.dvd_mul_left _ _) ?_
  rcases hS with e | e | e
  ·left; omega
  ·right; right; exact e
  ·right; left; exact e
 have ds:S / Nat.gcd S G ∣ S:=Nat.div_dvd_of_dvd (Nat.gcd_dvd_left _ _)
 exact cop_mul (cop_mul (cop_le k1 ds (Nat.dvd_refl _)) (cop_le k2 ds (Nat.dvd_refl _))) (cop_quot hGp)
theorem add_val {X1 Y1 X2 Y2 S G:Nat} {g1 g2 g:Bool} (hG:Nat.gcd Y1 Y2 = G) (p2:0 < Y2) (hS:nI g S = nI g1 (X1 * (Y2 / G)) + nI g2 (X2 * (Y1 / G))) :
  nI g (S / Nat.gcd S G) * ((Y1 * Y2:Nat):Int) = (nI g1 X1 * (Y2:Int) + nI g2 X2 * (Y1:Int)) * ((Y1 / G * (Y2 / G) * (G / Nat.gcd S G):Nat):Int):=by
 have e1:=div_of (show G ∣ Y1 by rw [← hG]; exact Nat.gcd_dvd_left _ _)
 have e2:=div_of (show G ∣ Y2 by rw [← hG]; exact Nat.gcd_dvd_right _ _)
 have e3:=div_of (Nat.gcd_dvd_left S G)
 have e4:=div_of (Nat.gcd_dvd_right S G)
 clear hG
 generalize Y1 / G = y1 at *
 generalize Y2 / G = y2 at *
 generalize S / Nat.gcd S G = s at *
 generalize G / Nat.gcd S G = t at *
 generalize Nat.gcd S G = C at *
 have hL:nI g1 X1 * (Y2:Int) + nI g2 X2 * (Y1:Int) = nI g S * (G:Int):=by
  rw [hS,nI_mul,nI_mul,e1,e2]
  push_cast
  simp only [Int.add_mul,Int.mul_assoc]
 rw [hL,show nI g S = nI g s * (C:Int) by rw [e3,nI_mul],e1,e2]
 clear hL hS
 have e5:(y1 * G * (y2 * G):Nat) = C * G * (y1 * y2 * t):=by
  have:y1 * G * (y2 * G) = y1 * (t * C) * (y2 * G):=by rw [← e4]
  rw [this]
  simp only [Nat.mul_comm,Nat.mul_left_comm]
 rw [e5]
 push_cast
 simp only [Int.mul_assoc]

theorem cmpN_sign (a b:Nat):cmpN a b = Int.sign ((a:Int) - (b:Int)):=by
 rcases Nat.lt_trichotomy a b with h | h | h
 ·rw [cmpN_lt h,Int.sign_eq_neg_one_of_neg (by omega)]
 ·rw [cmpN_eq h,show (a:Int) - (b:Int) = 0 by omega]; rfl
 ·rw [cmpN_gt h,Int.sign_eq_one_of_pos (by omega)]
theorem val_zero_iff {x:List Nat} (m:MayL x = true):val x = 0 ↔ x = []:=by
 constructor
 ·intro h
  by_cases e:x = []
  ·exact e
  ·have:=val_pos_of_may m e; omega
 ·intro h; rw [h]; rfl
theorem mayR_neg {g:Bool} {x y:List Nat} (h:MayR g x y = true):g = true → val x ≠ 0:=fun hg e => (MayR.parts h).2.2.2.1 hg ((val_zero_iff (MayR.parts h).1).1 e)
theorem mayR_pos {g:Bool} {x y:List Nat} (h:MayR g x y = true):0 < val y:=val_pos_of_may (MayR.parts h).2.1 (MayR.parts h).2.2.1
theorem signR_sign {g:Bool} {x y:List Nat} (h:MayR g x y = true):signR g x = Int.sign (nI g (val x)):=by
 have hz:=val_zero_iff (MayR.parts h).1
 have hn:=mayR_neg h
 unfold signR nI
 cases g
 ·simp only [Bool.false_eq_true,if_false]
  by_cases e:x = []
  ·rw [if_pos e,hz.2 e]; rfl
  ·rw [if_neg e,Int.sign_eq_one_of_pos (by have:val x ≠ 0:=fun k => e (hz.1 k); omega)]
 ·simp only [if_true]
  have:=hn rfl
  rw [Int.sign_eq_neg_one_of_neg (by omega)]
theorem sgn_lt {p1 p2 q1 q2:Int} (h1:0 < q1) (h2:0 < q2) (h:Int.sign p1 < Int.sign p2):p1 * q2 < p2 * q1:=by
 rcases Int.lt_trichotomy p1 0 with a | a | a
 ·have k:=Int.mul_neg_of_neg_of_pos a h2
  rcases Int.lt_trichotomy p2 0 with b | b | b
  ·rw [Int.sign_eq_neg_one_of_neg a,Int.sign_eq_neg_one_of_neg b] at h; omega
  ·rw [b,Int.zero_mul]; exact k
  ·have:=Int.mul_pos b h1; omega
 ·rw [a,Int.zero_mul]
  rcases Int.lt_trichotomy p2 0 with b | b | b
  ·rw [a,Int.sign_eq_neg_one_of_neg b] at h; simp at h
  ·rw [a,b] at h; omega
  ·exact Int.mul_pos b h1
 ·rw [Int.sign_eq_one_of_pos a] at h
  rcases Int.lt_trichotomy p2 0 with b | b | b
  ·rw [Int.sign_eq_neg_one_of_neg b] at h; omega
  ·rw [b] at h; simp at h
  ·rw [Int.sign_eq_one_of_pos b] at h; omega
theorem cmpR_sign {g1 g2:Bool} {x1 y1 x2 y2:List Nat} (h1:MayR g1 x1 y1 = true) (h2:MayR g2 x2 y2 = true):cmpR g1 x1 y1 g2 x2 y2 = Int.sign (nI g1 (val x1) * (val y2:Int) - nI g2 (val x2) * (val y1:Int)):=by
 have n1:=mayR_neg h1
 have n2:=mayR_neg h2
 have p1:(0:Int) < (val y1:Int):=by have:=mayR_pos h1; omega
 have p2:(0:Int) < (val y2:Int):=by have:=mayR_pos h2; omega
 unfold cmpR
 rw [signR_sign h1,signR_sign h2]
 by_cases a:Int.sign (nI g1 (val x1)) < Int.sign (nI g2 (val x2))
 ·rw [if_pos a,Int.sign_eq_neg_one_of_neg (by have:=sgn_lt p1 p2 a; omega)]
 ·rw [if_neg a]
  by_cases b:Int.sign (nI g2 (val x2)) < Int.sign (nI g1 (val x1))
  ·rw [if_pos b,Int.sign_eq_one_of_pos (by have:=sgn_lt p2 p1 b; omega)]
  ·rw [if_neg b]
   have e:Int.sign (nI g1 (val x1)) = Int.sign (nI g2 (val x2)):=by omega
   cases g1
   ·have hg2:g2 = false:=by
     cases g2
     ·rfl
     ·exfalso
      have:=n2 rfl
      have h3:Int.sign (nI true (val x2)) = -1:=Int.sign_eq_neg_one_of_neg (by simp only [nI,if_true]; omega)
      rw [h3] at e
      have h4:(0:Int) ≤ nI false (val x1):=by simp only [nI]; simp
      rcases Int.lt_or_eq_of_le h4 with k | k
      ·rw [Int.sign_eq_one_of_pos k] at e; omega
      ·rw [← k] at e; simp at e
    subst hg2
    simp only [Bool.false_eq_true,if_false,nI]
    rw [cmpN_sign]
    push_cast
    rfl
   ·have hg2:g2 = true:=by
     cases g2
     ·exfalso
      have:=n1 rfl
      have h3:Int.sign (nI true (val x1)) = -1:=Int.sign_eq_neg_one_of_neg (by simp only [nI,if_true]; omega)
      rw [h3] at e
      have h4:(0:Int) ≤ nI false (val x2):=by simp only [nI]; simp
      rcases Int.lt_or_eq_of_le h4 with k | k
      ·rw [Int.sign_eq_one_of_pos k] at e; omega
      ·rw [← k] at e; simp at e
     ·rfl
    subst hg2
    simp only [if_true,nI]
    rw [cmpN_sign]
    push_cast
    congr 1
    rw [Int.neg_mul,Int.neg_mul]
    omega
theorem mayR_mk {g:Bool} {N M:Nat} (hN:bigN N = false) (hM:bigN M = false) (hp:0 < M) (hg:Nat.gcd N M = 1):MayR (g && decide (N ≠ 0)) (limbs N) (limbs M) = true:=by
 have kN:MayL (limbs N) = true:=MayL.mk (limbs_rep N).norm (by unfold bigN at hN; simpa using hN)
 have kM:MayL (limbs M) = true:=MayL.mk (limbs_rep M).norm (by unfold bigN at hM; simpa using hM)
 have zN:limbs N = [] ↔ N = 0:=by have:=val_zero_iff kN; rw [(limbs_rep N).val] at this; exact this.symm
 have zM:¬ limbs M = []:=fun e => by have:=val_zero_iff kM; rw [(limbs_rep M).val] at this; have:=this.2 e; omega
 unfold MayR
 rw [kN,kM,(limbs_rep N).val,(limbs_rep M).val,decide_eq_true hg]
 by_cases e:N = 0
 ·subst e; simp [zM]
 ·have e2:¬ limbs N = []:=fun k => e (zN.1 k)
  simp [zM,e2]
theorem cmbV_val (g1 g2:Bool) (P Q:Nat):nI (cmbV g1 P g2 Q).2 (cmbV g1 P g2 Q).1 = nI g1 P + nI g2 Q:=by
 unfold cmbV
 by_cases h:g1 = g2
 ·subst h
  simp only [if_true]
  cases g1 <;> simp [nI] <;> omega
 ·rw [if_neg h]
  by_cases k:P < Q
  ·rw [if_pos k]
   cases g1 <;> cases g2 <;> simp [nI] at h ⊢ <;> omega
  ·rw [if_neg k]
   cases g1 <;> cases g2 <;> simp [nI] at h ⊢ <;> omega
theorem cmbV_abs (g1 g2:Bool) (P Q:Nat):(cmbV g1 P g2 Q).1 = P + Q ∨ ((cmbV g1 P g2 Q).1 = P - Q ∧ Q ≤ P) ∨ ((cmbV g1 P g2 Q).1 = Q - P ∧ P ≤ Q):=by
 unfold cmbV
 by_cases h:g1 = g2
 ·rw [if_pos h]; exact .inl rfl
 ·rw [if_neg h]
  by_cases k:P < Q
  ·rw [if_pos k]; exact .inr (.inr ⟨rfl,by omega⟩)
  ·rw [if_neg k]; exact .inr (.inl ⟨rfl,by omega⟩)
theorem div_pos_of_dvd {a b:Nat} (h:b ∣ a) (ha:0 < a):0 < a / b:=Nat.div_pos (Nat.le_of_dvd ha h) (Nat.pos_of_dvd_of_pos h ha)
theorem mulR_may {g1 g2:Bool} {x1 y1 x2 y2:List Nat} (h1:MayR g1 x1 y1 = true) (h2:MayR g2 x2 y2 = true) (hN:bigN (mulN x1 y1 x2 y2) = false) (hM:bigN (mulD x1 y1 x2 y2) = false) :
  MayR ((g1 != g2) && decide (mulN x1 y1 x2 y2 ≠ 0)) (limbs (mulN x1 y1 x2 y2)) (limbs (mulD x1 y1 x2 y2)) = true ∧ nI ((g1 != g2) && decide (mulN x1 y1 x2 y2 ≠ 0)) (mulN x1 y1 x2 y2) * ((val y1:Int) * (val y2:Int)) = nI g1 (val x1) * nI g2 (val x2) * (mulD x1 y1 x2 y2:Int):=by
 have p1:=mayR_pos h1
 have p2:=mayR_pos h2
 refine ⟨mayR_mk hN hM ?_ (mul_low (MayR.parts h1).2.2.2.2 (MayR.parts h2).2.2.2.2 p1 p2),?_⟩
 ·exact Nat.mul_pos (div_pos_of_dvd (Nat.gcd_dvd_right _ _) p1) (div_pos_of_dvd (Nat.gcd_dvd_right _ _) p2)
 ·rw [nI_and,← nI_xor]
  have e:=mul_val (X1:=val x1) (Y1:=val y1) (X2:=val x2) (Y2:=val y2) p1 p2
  have e2:((val y1:Int) * (val y2:Int)) = ((val y1 * val y2:Nat):Int):=by push_cast; rfl
  rw [e2,← nI_mul,← nI_mul]
  exact congrArg _ e
theorem addR_may {g1 g2:Bool} {x1 y1 x2 y2:List Nat} (l1:Nat.gcd (val x1) (val y1) = 1) (l2:Nat.gcd (val x2) (val y2) = 1) (p1:0 < val y1) (p2:0 < val y2) (hN:bigN (adN g1 x1 y1 g2 x2 y2) = false) (hM:bigN (adD g1 x1 y1 g2 x2 y2) = false) :
  MayR ((adS g1 x1 y1 g2 x2 y2).2 && decide (adN g1 x1 y1 g2 x2 y2 ≠ 0)) (limbs (adN g1 x1 y1 g2 x2 y2)) (limbs (adD g1 x1 y1 g2 x2 y2)) = true ∧ nI ((adS g1 x1 y1 g2 x2 y2).2 && decide (adN g1 x1 y1 g2 x2 y2 ≠ 0)) (adN g1 x1 y1 g2 x2 y2) * ((val y1:Int) * (val y2:Int)) = (nI g1 (val x1) * (val y2:Int) + nI g2 (val x2) * (val y1:Int)) * (adD g1 x1 y1 g2 x2 y2:Int):=by
 have hGp:0 < adG y1 y2:=Nat.gcd_pos_of_pos_right _ p2
 have hD:0 < adD g1 x1 y1 g2 x2 y2:=by
  unfold adD adC
  exact Nat.mul_pos (Nat.mul_pos (div_pos_of_dvd (Nat.gcd_dvd_left _ _) p1) (div_pos_of_dvd (Nat.gcd_dvd_right _ _) p2)) (div_pos_of_dvd (Nat.gcd_dvd_right _ _) hGp)
 refine ⟨mayR_mk hN hM hD (add_low (G:=adG y1 y2) l1 l2 p1 p2 rfl (cmbV_abs g1 g2 _ _)),?_⟩
 rw [nI_and]
 have e2:((val y1:Int) * (val y2:Int)) = ((val y1 * val y2:Nat):Int):=by push_cast; rfl
 rw [e2]
 exact add_val (G:=adG y1 y2) rfl p2 (cmbV_val g1 g2 _ _)
def AddF (g1:Bool) (x1 y1:List Nat) (g2:Bool) (x2 y2:List Nat):(Bool × List Nat × List Nat) × Int :=
 if MayR g1 x1 y1 && MayR g2 x2 y2 then (if bigN (adN g1 x1 y1 g2 x2 y2) || bigN (adD g1 x1 y1 g2 x2 y2) then ((false,[],[]),2) else (((adS g1 x1 y1 g2 x2 y2).2 && decide (adN g1 x1 y1 g2 x2 y2 ≠ 0),limbs (adN g1 x1 y1 g2 x2 y2),limbs (adD g1 x1 y1 g2 x2 y2)),0)) else ((false,[],[]),40)
theorem ratAdd_any (g1 g2:Bool) (a1 b1 a2 b2:Option Addr) (n1 c1 m1 d1 n2 c2 m2 d2:Nat) (x1 y1 x2 y2:List Nat) (w:World) (hx1:Sl w a1 n1 c1 x1) (hy1:Sl w b1 m1 d1 y1) (hx2:Sl w a2 n2 c2 x2) (hy2:Sl w b2 m2 d2 y2) (ox1:Ok x1) (oy1:Ok y1) (ox2:Ok x2) (oy2:Ok y2) (hT:Tab64 w) :
  Calls Tryz.prog 22 #[ratV g1 a1 n1 c1 b1 m1 d1,ratV g2 a2 n2 c2 b2 m2 d2] w fun e w' => ResR w w' (AddF g1 x1 y1 g2 x2 y2).1.1 (AddF g1 x1 y1 g2 x2 y2).1.2.1 (AddF g1 x1 y1 g2 x2 y2).1.2.2 (AddF g1 x1 y1 g2 x2 y2).2 e:=by
 refine ratAdd_face g1 g2 a1 b1 a2 b2 n1 c1 m1 d1 n2 c2 m2 d2 x1 y1 x2 y2 w hx1 hy1 hx2 hy2 ox1 oy1 ox2 oy2 hT _ _ _ _ (fun hm W hb => ?_) (fun hm => ?_)
 ·have h12:MayR g1 x1 y1 = true ∧ MayR g2 x2 y2 = true:=by simpa using hm
  obtain ⟨ka1,kb1,e1,_,_⟩:=MayR.parts h12.1
  obtain ⟨ka2,kb2,e2,_,_⟩:=MayR.parts h12.2
  refine (ratadd_any g1 g2 a1 b1 a2 b2 n1 c1 m1 d1 n2 c2 m2 d2 x1 y1 x2 y2 W (hx1.below hb) (hy1.below hb) (hx2.below hb) (hy2.below hb) ox1 oy1 ox2 oy2 ka1 kb1 ka2 kb2 e1 e2 (hT.below hb) (by_any W)).mono (fun e w' h => ?_)
  unfold MuPost at h
  unfold AddF
  rw [if_pos hm]
  split at h
  ·rename_i hbig
   rw [if_pos hbig]
   exact h
  ·rename_i hbig
   rw [if_neg hbig]
   exact h
 ·unfold AddF
  rw [hm]
  exact ⟨rfl,rfl,rfl,rfl⟩

def SubF (g1:Bool) (x1 y1:List Nat) (g2:Bool) (x2 y2:List Nat):(Bool × List Nat × List Nat) × Int :=
 if MayR g1 x1 y1 && MayR g2 x2 y2 then (if bigN (adN g1 x1 y1 (!g2) x2 y2) || bigN (adD g1 x1 y1 (!g2) x2 y2) then ((false,[],[]),2) else (((adS g1 x1 y1 (!g2) x2 y2).2 && decide (adN g1 x1 y1 (!g2) x2 y2 ≠ 0),limbs (adN g1 x1 y1 (!g2) x2 y2),limbs (adD g1 x1 y1 (!g2) x2 y2)),0)) else ((false,[],[]),40)
theorem ratSub_any (g1 g2:Bool) (a1 b1 a2 b2:Option Addr) (n1 c1 m1 d1 n2 c2 m2 d2:Nat) (x1 y1 x2 y2:List Nat) (w:World) (hx1:Sl w a1 n1 c1 x1) (hy1:Sl w b1 m1 d1 y1) (hx2:Sl w a2 n2 c2 x2) (hy2:Sl w b2 m2 d2 y2) (ox1:Ok x1) (oy1:Ok y1) (ox2:Ok x2) (oy2:Ok y2) (hT:Tab64 w) :
  Calls Tryz.prog 53 #[ratV g1 a1 n1 c1 b1 m1 d1,ratV g2 a2 n2 c2 b2 m2 d2] w fun e w' => ResR w w' (SubF g1 x1 y1 g2 x2 y2).1.1 (SubF g1 x1 y1 g2 x2 y2).1.2.1 (SubF g1 x1 y1 g2 x2 y2).1.2.2 (SubF g1 x1 y1 g2 x2 y2).2 e:=by
 refine ratSub_face g1 g2 a1 b1 a2 b2 n1 c1 m1 d1 n2 c2 m2 d2 x1 y1 x2 y2 w hx1 hy1 hx2 hy2 ox1 oy1 ox2 oy2 hT _ _ _ _ (fun hm W hb => ?_) (fun hm => ?_)
 ·have h12:MayR g1 x1 y1 = true ∧ MayR g2 x2 y2 = true:=by simpa using hm
  obtain ⟨ka1,kb1,e1,_,_⟩:=MayR.parts h12.1
  obtain ⟨ka2,kb2,e2,_,_⟩:=MayR.parts h12.2
  refine ratsubtract_any g1 g2 a1 b1 a2 b2 n1 c1 m1 d1 n2 c2 m2 d2 W _ _ _ _ (fun W2 hb2 => ?_)
  have hb3:=hb.trans (hb2.mono hb.size)
  refine (ratadd_any g1 (!g2) a1 b1 a2 b2 n1 c1 m1 d1 n2 c2 m2 d2 x1 y1 x2 y2 W2 (hx1.below hb3) (hy1.below hb3) (hx2.below hb3) (hy2.below hb3) ox1 oy1 ox2 oy2 ka1 kb1 ka2 kb2 e1 e2 (hT.below hb3) (by_any W2)).mono (fun e w' h => ?_)
  unfold MuPost at h
  unfold SubF
  rw [if_pos hm]
  split at h
  ·rename_i hbig
   rw [if_pos hbig]
   exact h
  ·rename_i hbig
   rw [if_neg hbig]
   exact h
 ·unfold SubF
  rw [hm]
  exact ⟨rfl,rfl,rfl,rfl⟩

theorem addF_ok {g1 g2:Bool} {x1 y1 x2 y2:List Nat} (h1:MayR g1 x1 y1 = true) (h2:MayR g2 x2 y2 = true) (h0:(AddF g1 x1 y1 g2 x2 y2).2 = 0) :
  ∃ g N D,AddF g1 x1 y1 g2 x2 y2 = ((g,limbs N,limbs D),0) ∧ MayR g (limbs N) (limbs D) = true ∧ 0 < D ∧ nI g N * ((val y1:Int) * (val y2:Int)) = (nI g1 (val x1) * (val y2:Int) + nI g2 (val x2) * (val y1:Int)) * (D:Int):=by
 unfold AddF at h0 ⊢
 rw [h1,h2] at h0 ⊢
 simp only [Bool.and_self,if_true] at h0 ⊢
 split at h0
 ·simp at h0
 ·rename_i hb
  rw [if_neg hb]
  have hb':bigN (adN g1 x1 y1 g2 x2 y2) = false ∧ bigN (adD g1 x1 y1 g2 x2 y2) = false:=by simpa using hb
  obtain ⟨m,e⟩:=addR_may (MayR.parts h1).2.2.2.2 (MayR.parts h2).2.2.2.2 (mayR_pos h1) (mayR_pos h2) hb'.1 hb'.2
  exact ⟨_,_,_,rfl,m,by have:=mayR_pos m; rwa [(limbs_rep _).val] at this,e⟩
theorem subF_ok {g1 g2:Bool} {x1 y1 x2 y2:List Nat} (h1:MayR g1 x1 y1 = true) (h2:MayR g2 x2 y2 = true) (h0:(SubF g1 x1 y1 g2 x2 y2).2 = 0) :
  ∃ g N D,SubF g1 x1 y1 g2 x2 y2 = ((g,limbs N,limbs D),0) ∧ MayR g (limbs N) (limbs D) = true ∧ 0 < D ∧ nI g N * ((val y1:Int) * (val y2:Int)) = (nI g1 (val x1) * (val y2:Int) + -nI g2 (val x2) * (val y1:Int)) * (D:Int):=by
 unfold SubF at h0 ⊢
 rw [h1,h2] at h0 ⊢
 simp only [Bool.and_self,if_true] at h0 ⊢
 split at h0
 ·simp at h0
 ·rename_i hb
  rw [if_neg hb]
  have hb':bigN (adN g1 x1 y1 (!g2) x2 y2) = false ∧ bigN (adD g1 x1 y1 (!g2) x2 y2) = false:=by simpa using hb
  obtain ⟨m,e⟩:=addR_may (MayR.parts h1).2.2.2.2 (MayR.parts h2).2.2.2.2 (mayR_pos h1) (mayR_pos h2) hb'.1 hb'.2
  have hn:nI (!g2) (val x2) = -nI g2 (val x2):=by cases g2 <;> simp [nI]
  rw [hn] at e
  exact ⟨_,_,_,rfl,m,by have:=mayR_pos m; rwa [(limbs_rep _).val] at this,e⟩
theorem mulF_ok {g1 g2:Bool} {x1 y1 x2 y2:List Nat} (h1:MayR g1 x1 y1 = true) (h2:MayR g2 x2 y2 = true) (h0:(MulF g1 x1 y1 g2 x2 y2).2 = 0) :
  ∃ g N D,MulF g1 x1 y1 g2 x2 y2 = ((g,limbs N,limbs D),0) ∧ MayR g (limbs N) (limbs D) = true ∧ 0 < D ∧ nI g N * ((val y1:Int) * (val y2:Int)) = nI g1 (val x1) * nI g2 (val x2) * (D:Int):=by
 unfold MulF at h0 ⊢
 rw [h1,h2] at h0 ⊢
 simp only [Bool.and_self,if_true] at h0 ⊢
 split at h0
 ·simp at h0
 ·rename_i hb
  rw [if_neg hb]
  have hb':bigN (mulN x1 y1 x2 y2) = false ∧ bigN (mulD x1 y1 x2 y2) = false:=by simpa using hb
  obtain ⟨m,e⟩:=mulR_may h1 h2 hb'.1 hb'.2
  exact ⟨_,_,_,rfl,m,by have:=mayR_pos m; rwa [(limbs_rep _).val] at this,e⟩
end Go.Proofs.YtmnlhnmlgncedaaGreatDoor
