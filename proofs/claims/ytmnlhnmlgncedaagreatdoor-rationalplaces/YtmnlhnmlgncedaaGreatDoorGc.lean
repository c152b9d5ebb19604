/- Rd3 -/
import Derived.Test.YtmnlhnmlgncedaaGreatDoorDv4
import Derived.Test.YtmnlhnmlgncedaaGreatDoorDv7
import Derived.Test.YtmnlhnmlgncedaaGreatDoorPa2
import Derived.Test.YtmnlhnmlgncedaaGreatDoorBase
import Derived.Test.YtmnlhnmlgncedaaGreatDoorKarS
import Derived.Test.YtmnlhnmlgncedaaGreatDoorDv2
import Derived.Handy
namespace Go.Proofs.YtmnlhnmlgncedaaGreatDoor
open Go.RowKit Go.Deep
set_option linter.unusedVariables false
theorem bits_top {xs:List Nat} {n:Nat} (ox:Ok xs) (nx:Norm xs) (h0:xs ≠ []) (hl:xs.length = n):bitsN xs ≤ 32 * n ∧ 1 ≤ bitsN xs ∧ 2 ^ (bitsN xs - 1) ≤ val xs:=by
 have h:=val_ge_bits ox nx h0
 have e:bitsN xs = bitsL xs:=by unfold bitsN; rw [if_neg h0]
 rw [e]
 refine ⟨?_,h.1,h.2⟩
 have h1:=val_lt ox
 rw [hl,pow_limb] at h1
 have h2:2 ^ (bitsL xs - 1) < 2 ^ (32 * n):=Nat.lt_of_le_of_lt h.2 h1
 have:=(Nat.pow_lt_pow_iff_right (by decide:1 < 2)).1 h2
 omega
theorem limbs_mono {a b:Nat} (h:a ≤ b):(limbs a).length ≤ (limbs b).length:=limbs_len (Nat.lt_of_le_of_lt h (limbs_lt b))

theorem ten_lt {v n:Nat} (h:v ≤ 10 ^ n):v < 4294967296 ^ (n + 1):=by
 have h1:10 ^ n ≤ 4294967296 ^ n:=Nat.pow_le_pow_left (by decide) n
 have h2:4294967296 ^ n < 4294967296 ^ (n + 1):=Nat.pow_lt_pow_right (by decide) (Nat.lt_succ_self n)
 omega
theorem ten_len {v n:Nat} (h:v ≤ 10 ^ n):(limbs v).length ≤ n + 1:=limbs_len (ten_lt h)
theorem tz_and:∀ (f x:Nat),0 < x → x < 2 ^ f → x &&& (2 ^ f - x) = 2 ^ Lib.ntzAux f x
 | 0,x,h0,h => by simp at h; omega
 | f + 1,x,h0,h => by
  have hp:2 ^ (f + 1) = 2 * 2 ^ f:=by rw [Nat.pow_succ,Nat.mul_comm]
  have hq:=Nat.two_pow_pos f
  rw [hp] at h ⊢
  have hd:=Nat.div_add_mod (x &&& (2 * 2 ^ f - x)) 2
  have hm:=and_m2 x (2 * 2 ^ f - x)
  rw [Nat.and_div_two] at hd
  simp only [Lib.ntzAux]
  rcases Nat.mod_two_eq_zero_or_one x with e | e
  ·rw [if_neg (by omega)]
   have e1:(2 * 2 ^ f - x) / 2 = 2 ^ f - x / 2:=by omega
   rw [e1,tz_and f (x / 2) (by omega) (by omega)] at hd
   rw [e,Nat.zero_mul] at hm
   rw [show 1 + Lib.ntzAux f (x / 2) = Lib.ntzAux f (x / 2) + 1 from by omega,Nat.pow_succ]
   omega
  ·rw [if_pos e]
   have e1:(2 * 2 ^ f - x) / 2 = 2 ^ f - 1 - x / 2:=by omega
   have e2:(2 * 2 ^ f - x) % 2 = 1:=by omega
   have e3:=and_not_add f (x / 2) (x / 2) (by omega) (by omega)
   rw [Nat.and_self] at e3
   rw [e1] at hd
   rw [e,e2] at hm
   simp only [Nat.pow_zero]
   omega

theorem tz_lt:∀ (f x:Nat),0 < x → x < 2 ^ f → Lib.ntzAux f x < f
 | 0,x,h0,h => by simp at h; omega
 | f + 1,x,h0,h => by
  rw [Nat.pow_succ] at h
  simp only [Lib.ntzAux]
  split
  ·omega
  ·have:=tz_lt f (x / 2) (by omega) (by omega)
   omega

theorem tz_bit:∀ (f x:Nat),0 < x → x < 2 ^ f → x / 2 ^ Lib.ntzAux f x % 2 = 1 ∧ ∀ s,s < Lib.ntzAux f x → x / 2 ^ s % 2 = 0
 | 0,x,h0,h => by simp at h; omega
 | f + 1,x,h0,h => by
  rw [Nat.pow_succ] at h
  simp only [Lib.ntzAux]
  split
  ·rename_i e
   exact ⟨by simpa using e,fun s hs => by omega⟩
  ·rename_i e
   have:=tz_bit f (x / 2) (by omega) (by omega)
   refine ⟨?_,?_⟩
   ·rw [show 1 + Lib.ntzAux f (x / 2) = Lib.ntzAux f (x / 2) + 1 from by omega,Nat.pow_succ,Nat.mul_comm,← Nat.div_div_eq_div_mul]
    exact this.1
   ·intro s hs
    cases s with
    | zero => simp; omega
    | succ s =>
     rw [Nat.pow_succ,Nat.mul_comm,← Nat.div_div_eq_div_mul]
     exact this.2 s (by omega)

theorem p32:(2:Nat) ^ 32 = 4294967296:=by decide
end Go.Proofs.YtmnlhnmlgncedaaGreatDoor
namespace Go.Proofs.YtmnlhnmlgncedaaGreatDoor
set_option linter.unusedVariables false
def Dif (o:Bool) (p q A B r:Nat):Prop:=if o then r + q * B = p * A else r + p * A = q * B
theorem dif_true {p q A B r:Nat}:Dif true p q A B r ↔ r + q * B = p * A:=Iff.rfl
theorem dif_false {p q A B r:Nat}:Dif false p q A B r ↔ r + p * A = q * B:=by simp [Dif]

theorem top_mul (K p X α:Nat):p * (K * X + α) = K * (p * X) + p * α:=by rw [Nat.mul_add,← Nat.mul_assoc,Nat.mul_comm p K,Nat.mul_assoc]

theorem dif_top {o:Bool} {p q X Y r A B K α β:Nat} (h:Dif o p q X Y r) (hA:A = K * X + α) (hB:B = K * Y + β) (ha:α < K) (hb:β < K) (hpq:p ≤ q) (hq:q ≤ r):∃ R,Dif o p q A B R ∧ (1 ≤ q → 1 ≤ R):=by
 have h1:K * q ≤ K * r:=Nat.mul_le_mul_left K hq
 have h2:p * α ≤ q * α:=Nat.mul_le_mul_right α hpq
 have h3:q * α ≤ q * K:=Nat.mul_le_mul_left q (Nat.le_of_lt ha)
 have h4:q * β ≤ q * K:=Nat.mul_le_mul_left q (Nat.le_of_lt hb)
 have h5:q * K = K * q:=Nat.mul_comm _ _
 have h6:1 ≤ q → q * α < q * K:=fun h => Nat.mul_lt_mul_of_pos_left ha h
 have h7:1 ≤ q → q * β < q * K:=fun h => Nat.mul_lt_mul_of_pos_left hb h
 subst hA hB
 cases o
 ·rw [dif_false] at h
  have e:K * r + K * (p * X) = K * (q * Y):=by rw [← Nat.mul_add,h]
  refine ⟨K * r + q * β - p * α,?_,?_⟩
  ·rw [dif_false,top_mul,top_mul]; omega
  ·intro h0; have:=h6 h0; omega
 ·rw [dif_true] at h
  have e:K * r + K * (q * Y) = K * (p * X):=by rw [← Nat.mul_add,h]
  refine ⟨K * r + p * α - q * β,?_,?_⟩
  ·rw [dif_true,top_mul,top_mul]; omega
  ·intro h0; have:=h7 h0; omega

theorem dif_sub {o:Bool} {u1 v1 u2 v2 A B r s d:Nat} (h1:Dif o u1 v1 A B r) (h2:Dif (!o) u2 v2 A B s):Dif o (u1 + u2) (v1 + v2) A B d ↔ d + s = r:=by
 cases o
 ·rw [dif_false] at *
  rw [show (!false) = true from rfl,dif_true] at h2
  rw [Nat.add_mul,Nat.add_mul]
  omega
 ·rw [dif_true] at *
  rw [show (!true) = false from rfl,dif_false] at h2
  rw [Nat.add_mul,Nat.add_mul]
  omega

theorem dif_step {o:Bool} {u1 v1 u2 v2 A B x y q z:Nat} (h1:Dif o u1 v1 A B x) (h2:Dif (!o) u2 v2 A B y) (hz:z + q * y = x):Dif o (u1 + q * u2) (v1 + q * v2) A B z:=by
 have e:∀ (p C:Nat),(q * p) * C = q * (p * C):=fun p C => Nat.mul_assoc _ _ _
 cases o
 ·rw [dif_false] at *
  rw [show (!false) = true from rfl,dif_true] at h2
  have e2:q * y + q * (v2 * B) = q * (u2 * A):=by rw [← Nat.mul_add,h2]
  rw [Nat.add_mul,Nat.add_mul,e,e]
  omega
 ·rw [dif_true] at *
  rw [show (!true) = false from rfl,dif_false] at h2
  have e2:q * y + q * (u2 * A) = q * (v2 * B):=by rw [← Nat.mul_add,h2]
  rw [Nat.add_mul,Nat.add_mul,e,e]
  omega

structure Whole (A B:Nat) (o:Bool) (u0 u1 u2 v0 v1 v2 R0 R1 q:Nat):Prop where
 d0:Dif (!o) u0 v0 A B R0
 d1:Dif o u1 v1 A B R1
 lt:R1 < R0
 gcd:Nat.gcd R0 R1 = Nat.gcd A B
 leB:R1 ≤ B
 le0:v0 ≠ 0 → R0 ≤ B
 u2e:u2 = u0 + q * u1
 v2e:v2 = v0 + q * v1

structure Leh (A B X Y:Nat) (o:Bool) (u0 u1 u2 v0 v1 v2 x y:Nat):Prop where
 hx:Dif o u1 v1 X Y x
 hy:Dif (!o) u2 v2 X Y y
 le1:u1 + u2 ≤ v1 + v2
 le2:u2 ≤ v2
 pos:1 ≤ v2
 idn:x * v2 + y * v1 = X
 yx:y ≤ x
 bu0:u0 < 4294967296
 bu1:u1 < 4294967296
 bv0:v0 < 4294967296
 bv1:v1 < 4294967296
 st:(v1 = 0 ∧ v0 = 0 ∧ o = true ∧ u1 = 1 ∧ u2 = 0 ∧ v2 = 1) ∨ (1 ≤ v1 ∧ ∃ R0 R1 q,Whole A B o u0 u1 u2 v0 v1 v2 R0 R1 q)

theorem Leh.start {A B X Y:Nat} (h:Y ≤ X):Leh A B X Y true 0 1 0 0 0 1 X Y :=
 ⟨by rw [dif_true]; simp,by rw [show (!true) = false from rfl,dif_false]; simp,by omega,by omega,by omega,by simp,h,by decide,by decide,by decide,by decide,.inl ⟨rfl,rfl,rfl,rfl,rfl,rfl⟩⟩

theorem sq_lt {v x X:Nat} (h1:v < x) (h2:x * v ≤ X) (h3:X < 18446744073709551616):v < 4294967296:=by
 rcases Nat.lt_or_ge v 4294967296 with h | h
 ·exact h
 ·exfalso
  have:4294967296 * 4294967296 ≤ x * v:=Nat.mul_le_mul (by omega) h
  omega

theorem gcd_step {a b c q:Nat} (h:c + q * b = a):Nat.gcd b c = Nat.gcd a b:=by
 rw [← h,Nat.gcd_comm (c + q * b) b,Nat.mul_comm q b,Nat.gcd_add_mul_left_right]

theorem Leh.step {A B X Y K α β:Nat} {o:Bool} {u0 u1 u2 v0 v1 v2 x y:Nat} (h:Leh A B X Y o u0 u1 u2 v0 v1 v2 x y) (hA:A = K * X + α) (hB:B = K * Y + β) (ha:α < K) (hb:β < K) (hX:X < 18446744073709551616) (hBA:B ≤ A)
  (c1:v2 ≤ y) (c2:v1 + v2 ≤ x - y):Leh A B X Y (!o) u1 u2 (u1 + x / y * u2) v1 v2 (v1 + x / y * v2) y (x - x / y * y):=by
 have hy1:1 ≤ y:=Nat.le_trans h.pos c1
 have hxy:y < x:=by have:=h.pos; omega
 have hdm:=Nat.div_add_mod x y
 have hml:=Nat.mod_lt x hy1
 rw [Nat.mul_comm] at hdm
 have hq1:1 ≤ x / y:=(Nat.le_div_iff_mul_le hy1).2 (by omega)
 have hxv:x * v2 ≤ X:=by have:=h.idn; omega
 have hv2:v2 < 4294967296:=sq_lt (v:=v2) (x:=x) (by omega) hxv hX
 generalize x / y = q at *
 have hz:(x - q * y) + q * y = x:=by omega
 obtain ⟨R2,hR2,hR2p⟩:=dif_top h.hy hA hB ha hb h.le2 c1
 have hdxy:Dif o (u1 + u2) (v1 + v2) X Y (x - y):=(dif_sub h.hx h.hy).2 (by omega)
 obtain ⟨Rd,hRd,hRdp⟩:=dif_top hdxy hA hB ha hb h.le1 c2
 have hRdp':=hRdp (by have:=h.pos; omega)
 have hqv:q * v2 = v2 + (q - 1) * v2:=by
  rw [Nat.sub_mul,Nat.one_mul]
  have:1 * v2 ≤ q * v2:=Nat.mul_le_mul_right v2 hq1
  omega
 have hqu:q * u2 = u2 + (q - 1) * u2:=by
  rw [Nat.sub_mul,Nat.one_mul]
  have:1 * u2 ≤ q * u2:=Nat.mul_le_mul_right u2 hq1
  omega
 have hquv:(q - 1) * u2 ≤ (q - 1) * v2:=Nat.mul_le_mul_left _ h.le2
 refine ⟨h.hy,by rw [Bool.not_not]; exact dif_step h.hx h.hy hz,?_,?_,?_,?_,by omega,h.bu1,by have:=h.le2; omega,h.bv1,hv2,?_⟩
 ·have:=h.le1; have:=h.le2; omega
 ·have:=h.le1; have:=h.le2; omega
 ·have:=h.pos; omega
 ·have e1:y * (v1 + q * v2) + (x - q * y) * v2 = X:=by
   rw [Nat.mul_add,Nat.sub_mul,← Nat.mul_assoc y q,Nat.mul_comm y q]
   have hle:q * y * v2 ≤ x * v2:=Nat.mul_le_mul_right v2 (by omega)
   have:=h.idn
   omega
  exact e1
 ·right
  refine ⟨h.pos,?_⟩
  rcases h.st with ⟨s1,s2,s3,s4,s5,s6⟩ | ⟨s1,R0,R1,q0,W⟩
  ·subst s1 s2 s3 s4 s5 s6
   have hRB:R2 = B:=by rw [show (!true) = false from rfl,dif_false] at hR2; omega
   subst hRB
   have hRA:Dif true 1 0 A R2 A:=by rw [dif_true]; simp
   have hlt:=(dif_sub hRA hR2).1 hRd
   exact ⟨A,R2,q,by rw [Bool.not_not]; exact hRA,hR2,by omega,rfl,Nat.le_refl _,by simp,rfl,rfl⟩
  ·have hlt:=(dif_sub W.d1 hR2).1 hRd
   have hR:R2 + q0 * R1 = R0:=by
    have hz2:∃ z,z + q0 * R1 = R0 ∨ R0 + z = q0 * R1:=by
     rcases Nat.le_total (q0 * R1) R0 with k | k
     ·exact ⟨R0 - q0 * R1,.inl (by omega)⟩
     ·exact ⟨q0 * R1 - R0,.inr (by omega)⟩
    have e:∀ (p C:Nat),(q0 * p) * C = q0 * (p * C):=fun p C => Nat.mul_assoc _ _ _
    have d0:=W.d0
    have d1:=W.d1
    rw [W.u2e,W.v2e] at hR2
    cases o
    ·rw [show (!false) = true from rfl,dif_true] at d0 hR2
     rw [dif_false] at d1
     have e2:q0 * R1 + q0 * (u1 * A) = q0 * (v1 * B):=by rw [← Nat.mul_add,d1]
     rw [Nat.add_mul,Nat.add_mul,e,e] at hR2
     omega
    ·rw [show (!true) = false from rfl,dif_false] at d0 hR2
     rw [dif_true] at d1
     have e2:q0 * R1 + q0 * (v1 * B) = q0 * (u1 * A):=by rw [← Nat.mul_add,d1]
     rw [Nat.add_mul,Nat.add_mul,e,e] at hR2
     omega
   exact ⟨R1,R2,q,by rw [Bool.not_not]; exact W.d1,hR2,by omega,(gcd_step hR).trans W.gcd,by have:=W.leB; omega,fun _ => W.leB,rfl,rfl⟩
open Go.RowKit Go.Deep
set_option linter.unusedVariables false

def topN (xs:List Nat) (n s:Nat):Nat:=(xs.getD (n - 2) 0 + 4294967296 * xs.getD (n - 1) 0) * 2 ^ s + xs.getD (n - 3) 0 / 2 ^ (32 - s)

theorem top_arith {L P S l m t:Nat} (hPS:P * S = 4294967296):L + (l + 4294967296 * (m + 4294967296 * t)) = P * ((m + 4294967296 * t) * S + l / P) + (L + l % P):=by
 have h1:=Nat.div_add_mod l P
 have e:P * ((m + 4294967296 * t) * S) = 4294967296 * (m + 4294967296 * t):=by rw [Nat.mul_comm (m + 4294967296 * t) S,← Nat.mul_assoc,hPS]
 have e2:P * ((m + 4294967296 * t) * S + l / P) = P * ((m + 4294967296 * t) * S) + P * (l / P):=Nat.mul_add _ _ _
 rw [e2,e]
 omega

theorem top_val {xs:List Nat} {n s:Nat} (ox:Ok xs) (hl:xs.length ≤ n) (hn:3 ≤ n) (hs:s ≤ 31) :
  ∃ α,val xs = 2 ^ (32 * (n - 3) + (32 - s)) * topN xs n s + α ∧ α < 2 ^ (32 * (n - 3) + (32 - s)):=by
 have e1:=valF_add (fun i => xs.getD i 0) (n - 3) 3
 rw [show n - 3 + 3 = n from by omega,valF_ge xs n hl] at e1
 simp only [valF,Nat.pow_zero,Nat.one_mul,Nat.zero_add,Nat.pow_one,Nat.add_zero] at e1
 rw [show n - 3 + 1 = n - 2 from by omega,show n - 3 + 2 = n - 1 from by omega] at e1
 have hL:=valF_lt (f:=fun i => xs.getD i 0) (n:=n - 3) (fun i _ => ox.getD i)
 rw [pow_limb] at e1 hL
 generalize valF (fun i => xs.getD i 0) (n - 3) = L at *
 have hP:2 ^ (32 - s) * 2 ^ s = 4294967296:=by rw [← Nat.pow_add,show 32 - s + s = 32 from by omega]
 have hpos:0 < 2 ^ (32 - s):=Nat.two_pow_pos _
 have hm:=Nat.mod_lt (xs.getD (n - 3) 0) hpos
 have hA:=top_arith (L:=0) (l:=xs.getD (n - 3) 0) (m:=xs.getD (n - 2) 0) (t:=xs.getD (n - 1) 0) hP
 unfold topN
 rw [Nat.pow_add]
 generalize 2 ^ (32 * (n - 3)) = Q at *
 generalize 2 ^ (32 - s) = P at *
 generalize xs.getD (n - 3) 0 = l at *
 generalize xs.getD (n - 2) 0 = m at *
 generalize xs.getD (n - 1) 0 = t at *
 refine ⟨L + Q * (l % P),?_,?_⟩
 ·rw [e1,show (l + 4294967296 * m + 4294967296 ^ 2 * t) = 0 + (l + 4294967296 * (m + 4294967296 * t)) from by omega,hA,Nat.mul_add,Nat.zero_add,← Nat.mul_assoc]
  omega
 ·have:Q * (l % P) + Q ≤ Q * P:=by
   rw [← Nat.mul_succ]
   exact Nat.mul_le_mul_left Q hm
  omega

theorem top_lt {xs:List Nat} {n s:Nat} (ox:Ok xs) (hs:s ≤ 31) (ht:xs.getD (n - 1) 0 * 2 ^ s < 4294967296):topN xs n s < 18446744073709551616 ∧ (xs.getD (n - 2) 0 + 4294967296 * xs.getD (n - 1) 0) * 2 ^ s + 2 ^ s ≤ 18446744073709551616 ∧ xs.getD (n - 3) 0 / 2 ^ (32 - s) < 2 ^ s:=by
 have hP:2 ^ (32 - s) * 2 ^ s = 4294967296:=by rw [← Nat.pow_add,show 32 - s + s = 32 from by omega]
 have h1:=ox.getD (n - 2)
 have h3:=ox.getD (n - 3)
 have hS:0 < 2 ^ s:=Nat.two_pow_pos _
 have hd:xs.getD (n - 3) 0 / 2 ^ (32 - s) < 2 ^ s:=by
  rw [Nat.div_lt_iff_lt_mul (Nat.two_pow_pos _),Nat.mul_comm,hP]
  exact h3
 unfold topN
 generalize xs.getD (n - 3) 0 / 2 ^ (32 - s) = d at *
 generalize xs.getD (n - 2) 0 = m at *
 generalize xs.getD (n - 1) 0 = t at *
 generalize 2 ^ (32 - s) = P at *
 generalize 2 ^ s = S at *
 -- t S < 2^32 and S divides 2^32: t S + S <= 2^32
 have hk:t * S + S ≤ 4294967296:=by
  rw [← hP,← Nat.succ_mul]
  rw [← hP] at ht
  exact Nat.mul_le_mul_right S (Nat.lt_of_mul_lt_mul_right ht)
 have hm:m * S + S ≤ 4294967296 * S:=by
  rw [← Nat.succ_mul]
  exact Nat.mul_le_mul_right S h1
 have e:(m + 4294967296 * t) * S = m * S + 4294967296 * (t * S):=by rw [Nat.add_mul,Nat.mul_assoc]
 rw [e]
 exact ⟨by omega,by omega,hd⟩

theorem or_low {h S d:Nat} {s:Nat} (hS:S = 2 ^ s) (hd:d < S) (hb:h * S + S ≤ 18446744073709551616):bits .or .u64 ((h * S:Nat):Int) (d:Int) = ((h * S + d:Nat):Int):=by
 have h1:h * S < 18446744073709551616:=by omega
 have h2:d < 18446744073709551616:=by omega
 rw [u64_or_nat _ _ h1 h2]
 congr 1
 have:=Nat.shiftLeft_add_eq_or_of_lt (i:=s) (b:=d) (by rw [← hS]; exact hd) h
 rw [Nat.shiftLeft_eq,← hS] at this
 exact this.symm

set_option maxHeartbeats 4000000 in
theorem topWord_any (a:Option Addr) (m c:Nat) (xs:List Nat) (n s:Nat) (w:World) (h:Sl w a m c xs) (ox:Ok xs) (hn:3 ≤ n) (hn2:n ≤ 1000000) (hs:s ≤ 31) (ht:xs.getD (n - 1) 0 * 2 ^ s < 4294967296) :
  Calls Tryz.prog 198 #[.slice a m c,.int .i64 (n:Nat),.int .i64 (s:Nat)] w fun e w' => e = .returned (.int .u64 (topN xs n s:Nat)) ∧ ∃ k,w' = w.drewN k:=by
 have K1:=limbAt_any a m c xs ((n:Int) - 1) w h (by omega)
 have K2:=limbAt_any a m c xs ((n:Int) - 2) w h (by omega)
 have K3:=fun j => limbAt_any a m c xs ((n:Int) - 3) (w.drewN j) (h.drewN j) (by omega)
 rw [show ((n:Int) - 1).toNat = n - 1 from by omega] at K1
 rw [show ((n:Int) - 2).toNat = n - 2 from by omega] at K2
 rw [show ((n:Int) - 3).toNat = n - 3 from by omega] at K3
 have hT:=top_lt ox hs ht
 have b1:=ox.getD (n - 1)
 have b2:=ox.getD (n - 2)
 have b3:=ox.getD (n - 3)
 unfold topN at hT ⊢
 generalize xs.getD (n - 1) 0 = t at *
 generalize xs.getD (n - 2) 0 = m' at *
 generalize xs.getD (n - 3) 0 = l at *
 have e1:=or_halves t m' b1 b2
 have e2:(((m' + 4294967296 * t:Nat):Int)) * 2 ^ s = (((m' + 4294967296 * t) * 2 ^ s:Nat):Int):=by rw [Int.natCast_mul,Int.natCast_pow]; rfl
 have e3:(32:Int) - (s:Int) = ((32 - s:Nat):Int):=by omega
 have e4:(l:Int) / 2 ^ (32 - s) = ((l / 2 ^ (32 - s):Nat):Int):=by rw [Int.natCast_ediv,Int.natCast_pow]; rfl
 have e5:=or_low (h:=m' + 4294967296 * t) (s:=s) rfl hT.2.2 hT.2.1
 have hd:=hT.2.2
 have hb:=hT.2.1
 have hr:=hT.1
 have hhb:m' + 4294967296 * t < 18446744073709551616:=by omega
 generalize hh:m' + 4294967296 * t = hd0 at *
 have hle:hd0 * 2 ^ s < 18446744073709551616:=by have:=Nat.two_pow_pos s; omega
 generalize hh2:hd0 * 2 ^ s = hs0 at *
 have hl2:l / 2 ^ (32 - s) < 4294967296:=Nat.lt_of_le_of_lt (Nat.div_le_self _ _) b3
 generalize l / 2 ^ (32 - s) = d at *
 generalize hh3:32 - s = r at *
 have K1':=Hj K1
 have K2':=Hj K2
 have K3':=Hj K3
 clear K1 K2 K3 h hT ht hh hh2 hh3
 go_enter Tryz.func198,Tryz.ntmps198
 go_wp2_with fail
 refine (Uh K1').mono ?_
 rintro e w' ⟨rfl,hw⟩
 obtain rfl:=hw.symm
 go_wp2_with fail
 refine (Uh K2').mono ?_
 rintro e w' ⟨rfl,hw⟩
 obtain rfl:=hw.symm
 go_wp2_with fail
 go_quiet ((go_at_call 148; exact Calls.quiet_of_same (Uh K3' _)))
 go_wp2
 go_ret
 exact ⟨rfl,_,rfl⟩
end Go.Proofs.YtmnlhnmlgncedaaGreatDoor
namespace Go.Proofs.YtmnlhnmlgncedaaGreatDoor
open Go.RowKit Go.Deep
set_option linter.unusedVariables false
structure Steps (A B:Nat) (o:Bool) (u0 u1 v0 v1:Nat):Prop where
 bu0:u0 < 4294967296
 bu1:u1 < 4294967296
 bv0:v0 < 4294967296
 bv1:v1 < 4294967296
 has:v0 ≠ 0 → ∃ R0 R1,Dif (!o) u0 v0 A B R0 ∧ Dif o u1 v1 A B R1 ∧ R1 < R0 ∧ R0 ≤ B ∧ Nat.gcd R0 R1 = Nat.gcd A B

theorem Leh.steps {A B X Y:Nat} {o:Bool} {u0 u1 u2 v0 v1 v2 x y:Nat} (h:Leh A B X Y o u0 u1 u2 v0 v1 v2 x y):Steps A B o u0 u1 v0 v1:=by
 refine ⟨h.bu0,h.bu1,h.bv0,h.bv1,?_⟩
 intro h0
 rcases h.st with ⟨_,s2,_⟩ | ⟨_,R0,R1,q,W⟩
 ·exact absurd s2 h0
 ·exact ⟨R0,R1,W.d0,W.d1,W.lt,W.le0 h0,W.gcd⟩

def stepsV (o:Bool) (u0 u1 v0 v1:Nat):Value:=.agg #[.int .u64 (u0:Nat),.int .u64 (u1:Nat),.int .u64 (v0:Nat),.int .u64 (v1:Nat),.bool o]

theorem top_digit {xs:List Nat} {n:Nat} (ox:Ok xs) (hl:xs.length ≤ n) (hn:1 ≤ n):xs.getD (n - 1) 0 = val xs / 4294967296 ^ (n - 1):=by
 rw [← val_drop ox,val_drop_step]
 have:val (xs.drop (n - 1 + 1)) = 0:=by rw [List.drop_eq_nil_of_le (by omega)]; rfl
 omega

theorem len_le_of_val {xs ys:List Nat} (ox:Ok xs) (oy:Ok ys) (ny:Norm ys) (h:val ys ≤ val xs):ys.length ≤ xs.length:=by
 rcases Nat.lt_or_ge xs.length ys.length with k | k
 ·have:=len_lt_val ox ny k; omega
 ·exact k

theorem tops {xs ys:List Nat} {n:Nat} (ox:Ok xs) (oy:Ok ys) (nx:Norm xs) (ny:Norm ys) (hl:xs.length = n) (hn:3 ≤ n) (h:val ys ≤ val xs) {s:Nat} (hs:Lib.bitLen (xs.getD (n - 1) 0) + s = 32) (hb:1 ≤ Lib.bitLen (xs.getD (n - 1) 0)) :
  s ≤ 31 ∧ xs.getD (n - 1) 0 * 2 ^ s < 4294967296 ∧ ys.getD (n - 1) 0 * 2 ^ s < 4294967296 ∧ ∃ K α β,val xs = K * topN xs n s + α ∧ val ys = K * topN ys n s + β ∧ α < K ∧ β < K ∧ topN ys n s ≤ topN xs n s:=by
 have hyl:ys.length ≤ n:=by have:=len_le_of_val ox oy ny h; omega
 have bx:=ox.getD (n - 1)
 have h1:=bl_lt (xs.getD (n - 1) 0) _ (Nat.le_refl _) (by omega)
 have hd:ys.getD (n - 1) 0 ≤ xs.getD (n - 1) 0:=by
  rw [top_digit ox (by omega) (by omega),top_digit oy hyl (by omega)]
  exact Nat.div_le_div_right h
 have hp:2 ^ Lib.bitLen (xs.getD (n - 1) 0) * 2 ^ s = 4294967296:=by rw [← Nat.pow_add,hs]
 have hS:0 < 2 ^ s:=Nat.two_pow_pos _
 have t1:xs.getD (n - 1) 0 * 2 ^ s < 4294967296:=by rw [← hp]; exact Nat.mul_lt_mul_of_pos_right h1 hS
 have t2:ys.getD (n - 1) 0 * 2 ^ s < 4294967296:=Nat.lt_of_le_of_lt (Nat.mul_le_mul_right _ hd) t1
 obtain ⟨α,ea,la⟩:=top_val (s:=s) ox (Nat.le_of_eq hl) hn (by omega)
 obtain ⟨β,eb,lb⟩:=top_val (s:=s) oy hyl hn (by omega)
 refine ⟨by omega,t1,t2,_,α,β,ea,eb,la,lb,?_⟩
 generalize 2 ^ (32 * (n - 3) + (32 - s)) = K at *
 rcases Nat.lt_or_ge (topN xs n s) (topN ys n s) with k | k
 ·exfalso
  have:K * (topN xs n s + 1) ≤ K * topN ys n s:=Nat.mul_le_mul_left K k
  rw [Nat.mul_add,Nat.mul_one] at this
  omega
 ·exact k

def St5 (w:World) (b:Nat) (f:Nat → Value):Prop:=∀ i,i < 5 → w.cell? ⟨b,i,none⟩ = some (f i) ∧ w.frozen? ⟨b,i,none⟩ = false
theorem St5.set {w:World} {b:Nat} {f:Nat → Value} (h:St5 w b f) (k:Nat) (v:Value) (hk:k < 5):St5 (w.setCell ⟨b,k,none⟩ v) b (fun i => if i = k then v else f i):=by
 intro i hi
 have hw:=(h k hk).1
 refine ⟨?_,by rw [World.frozen?_setCell]; exact (h i hi).2⟩
 by_cases e:i = k
 ·subst e
  simp only [if_true]
  rw [World.cell?_setCell_same _ _ _ hw]
 ·simp only [e,if_false]
  rw [World.cell?_setCell_other _ _ _ _ (by intro hh; injection hh with h1 h2; omega)]
  exact (h i hi).1
theorem St5.other {w:World} {b:Nat} {f:Nat → Value} (h:St5 w b f) (b' k:Nat) (v:Value) (hb:b ≠ b'):St5 (w.setCell ⟨b',k,none⟩ v) b f:=by
 intro i hi
 refine ⟨?_,by rw [World.frozen?_setCell]; exact (h i hi).2⟩
 rw [World.cell?_setCell_other _ _ _ _ (by intro hh; injection hh with h1 h2; omega)]
 exact (h i hi).1
theorem St5.congr {w:World} {b:Nat} {f g:Nat → Value} (h:St5 w b f) (e:∀ i,i < 5 → f i = g i):St5 w b g:=fun i hi => ⟨by rw [← e i hi]; exact (h i hi).1,(h i hi).2⟩
theorem alloc_frozen (w:World) (cs:Array Value) (e:TypeId) (i:Nat):(w.alloc (.cells cs e)).frozen? ⟨w.heap.size,i,none⟩ = false:=by
 have h:=alloc_block w (.cells cs e)
 unfold World.frozen?
 simp only
 rw [h]
 simp
theorem St5.made (w:World) (a b c d e:Value) (t:TypeId):St5 (w.alloc (.cells #[a,b,c,d,e] t)) w.heap.size (fun i => match i with | 0 => a | 1 => b | 2 => c | 3 => d | _ => e):=fun i hi => by
 refine ⟨?_,alloc_frozen _ _ _ _⟩
 match i,hi with
 | 0,_ | 1,_ | 2,_ | 3,_ | 4,_ => simp
theorem St5.below {w w':World} {b:Nat} {f:Nat → Value} (h:St5 w b f) (k:Below w.heap.size w w'):St5 w' b f:=by
 intro i hi
 have hl:=World.block_lt_of_cell? _ _ (h i hi).1
 exact ⟨(k.cell hl).trans (h i hi).1,(k.frozen hl).trans (h i hi).2⟩
theorem St5.drewN {w:World} {b:Nat} {f:Nat → Value} (h:St5 w b f) (k:Nat):St5 (w.drewN k) b f:=h.below (bel_drewN (Below.refl _ _) k)
def stv (o:Bool) (u0 u1 v0 v1:Nat) (i:Nat):Value:=match i with
 | 0 => .int .u64 (u0:Nat)
 | 1 => .int .u64 (u1:Nat)
 | 2 => .int .u64 (v0:Nat)
 | 3 => .int .u64 (v1:Nat)
 | _ => .bool o

def FsPost (w:World) (A B:Nat) (e:Ending) (w':World):Prop:=∃ o u0 u1 v0 v1,Steps A B o u0 u1 v0 v1 ∧ e = .returned (stepsV o u0 u1 v0 v1) ∧ Below w.heap.size w w'

set_option maxHeartbeats 8000000 in
theorem foresee_any (b1 o1 n1 c1 : Nat) (a2 : Option Addr) (n2 c2 : Nat) (xs ys : List Nat) (w : World) (h1 : Sl w (some ⟨b1, o1, none⟩) n1 c1 xs) (h2 : Sl w a2 n2 c2 ys) (ox : Ok xs) (oy : Ok ys) (nx : Norm xs) (ny : Norm ys) (hn : 3 ≤ n1) (hn2 : n1 ≤ 1000000) (hle : val ys ≤ val xs) :
    Calls Tryz.prog 163 #[.slice (some ⟨b1, o1, none⟩) n1 c1, .slice a2 n2 c2] w fun e w' => FsPost w (val xs) (val ys) e w' := by
  have hl1 := h1.len
  have hx0 : xs ≠ [] := by intro e; subst e; simp at hl1; omega
  have ht : xs.getD (n1 - 1) 0 ≠ 0 := by rw [← hl1]; exact nx.resolve_left hx0
  have bt := ox.getD (n1 - 1)
  have ct : w.cell? ⟨b1, o1 + (n1 - 1), none⟩ = some (.int .u32 (xs.getD (n1 - 1) 0 : Nat)) := by
    rcases h1.cells with e | ⟨b, o, e, hc⟩
    · exact absurd e hx0
    · cases e; exact hc _ (by omega)
  have bl1 := bl_pos _ ht (by omega)
  have bl2 : Lib.bitLen (xs.getD (n1 - 1) 0) ≤ 32 := Lib.bitLen_le _ 32 (by omega) (by omega)
  obtain ⟨s, hs⟩ : ∃ s, Lib.bitLen (xs.getD (n1 - 1) 0) + s = 32 := ⟨32 - Lib.bitLen (xs.getD (n1 - 1) 0), by omega⟩
  have KZ := fun v => lz32_any (xs.getD (n1 - 1) 0) v bt
  rw [show (32 : Int) - (Lib.bitLen (xs.getD (n1 - 1) 0) : Int) = (s : Int) from by omega] at KZ
  obtain ⟨hs31, tx, ty, K, α, β, eA, eB, lα, lβ, hYX⟩ := tops ox oy nx ny hl1 hn hle hs bl1
  have hX := (top_lt ox hs31 tx).1
  have KZ' := hide KZ
  have KX := hide (fun v (hv : Below w.heap.size w v) => topWord_any _ n1 c1 xs n1 s v (h1.below hv) ox hn hn2 hs31 tx)
  have KY := hide (fun v (hv : Below w.heap.size w v) => topWord_any a2 n2 c2 ys n1 s v (h2.below hv) oy hn hn2 hs31 ty)
  have ct0 : ∀ o, (w.alloc o).cell? ⟨b1, o1 + (n1 - 1), none⟩ = some (.int .u32 (xs.getD (n1 - 1) 0 : Nat)) := fun o => by
    rw [((Below.refl w.heap.size w).alloc (Nat.le_refl _) o).cell (World.block_lt_of_cell? _ _ ct)]
    exact ct
  have HF := hide (And.intro eA (And.intro eB (And.intro lα (And.intro lβ (And.intro hX hle)))))
  have HL := hide (Leh.start (A := val xs) (B := val ys) hYX)
  have hY : topN ys n1 s < 18446744073709551616 := by omega
  have j1 : ((n1:Int) - 1).toNat = n1 - 1 := by omega
  generalize xs.getD (n1 - 1) 0 = t at *
  generalize hXd : topN xs n1 s = X at *
  generalize hYd : topN ys n1 s = Y at *
  clear KZ h1 h2 hs bl1 bl2 bt ht hl1 tx ty eA eB hXd hYd
  go_enter Tryz.func163, Tryz.ntmps163
  go_wp2_with fail
  refine (unhide KZ' _).mono ?_
  rintro e w' ⟨rfl, hw⟩
  obtain rfl := hw.symm
  clear hw
  go_wp2_with fail
  have hB0 := (Below.refl w.heap.size w).alloc (Nat.le_refl _) (.cells #[.int .u64 0, .int .u64 0, .int .u64 0, .int .u64 0, .bool false] 192)
  refine (unhide KX _ hB0).mono ?_
  rintro e w1 ⟨rfl, k1, hw1⟩
  have hB1 : Below w.heap.size w w1 := by rw [hw1]; exact bel_drewN hB0 k1
  have HB1 := hide hB1
  have HC1 := hide (show St5 w1 w.heap.size (stv false 0 0 0 0) from by rw [hw1]; exact St5.drewN (St5.made w (.int .u64 0) (.int .u64 0) (.int .u64 0) (.int .u64 0) (.bool false) 192) k1)
  clear hw1 hB0 hB1 KX
  go_wp2_with fail
  refine (unhide KY _ (unhide HB1)).mono ?_
  rintro e w2 ⟨rfl, k2, hw2⟩
  have HB2 := hide (show Below w.heap.size w w2 from by rw [hw2]; exact bel_drewN (unhide HB1) k2)
  have HC2 := hide (show St5 w2 w.heap.size (stv false 0 0 0 0) from by rw [hw2]; exact (unhide HC1).drewN k2)
  have hz2 : w.heap.size < w2.heap.size := World.block_lt_of_cell? _ _ (unhide HC2 0 (by decide)).1
  clear KY hw2 HB1 HC1
  go_wp2_with fail
  have HS0 := hide (show St5 (w2.alloc (.cells #[.int .u64 0, .int .u64 1, .int .u64 0, .int .u64 0, .bool true] 192)) w2.heap.size (stv true 0 1 0 0) from St5.made _ _ _ _ _ _ _)
  have HT0 := hide ((unhide HC2).below ((Below.refl w2.heap.size w2).alloc (Nat.le_refl _) (.cells #[.int .u64 0, .int .u64 1, .int .u64 0, .int .u64 0, .bool true] 192)))
  have HB3 := hide ((unhide HB2).trans (((Below.refl w2.heap.size w2).alloc (Nat.le_refl _) (.cells #[.int .u64 0, .int .u64 1, .int .u64 0, .int .u64 0, .bool true] 192)).mono (unhide HB2).size))
  generalize hbs : w2.heap.size = bs at *
  clear HB2 HC2 hbs
  go_loopw [7, 8, 10, 11] (fun xv yv uv vv wr => ∃ (o : Bool) (u0 u1 u2 v0 v1 v2 x y : Nat), xv = .int .u64 (x : Nat) ∧ yv = .int .u64 (y : Nat) ∧ uv = .int .u64 (u2 : Nat) ∧ vv = .int .u64 (v2 : Nat) ∧ Leh (val xs) (val ys) X Y o u0 u1 u2 v0 v1 v2 x y ∧ St5 wr bs (stv o u0 u1 v0 v1) ∧ St5 wr w.heap.size (stv false 0 0 0 0) ∧ Below w.heap.size w wr) (fun _ yv _ _ _ => (intOf yv).toNat)
  case atStart => exact ⟨true, 0, 1, 0, 0, 0, 1, X, Y, rfl, rfl, rfl, rfl, unhide HL, unhide HS0, unhide HT0, unhide HB3⟩
  case round =>
    clear HL HS0 HT0 HB3
    obtain ⟨o, u0, u1, u2, v0, v1, v2, x, y, rfl, rfl, rfl, rfl, hL, hS, hT, hB⟩ := hrel
    have g0 := (hS 0 (by decide)).1
    have g1 := (hS 1 (by decide)).1
    have g2 := (hS 2 (by decide)).1
    have g3 := (hS 3 (by decide)).1
    have g4 := (hS 4 (by decide)).1
    have f0 := (hS 0 (by decide)).2
    have f1 := (hS 1 (by decide)).2
    have f2 := (hS 2 (by decide)).2
    have f3 := (hS 3 (by decide)).2
    have f4 := (hS 4 (by decide)).2
    simp only [stv] at g0 g1 g2 g3 g4
    by_cases c1 : v2 ≤ y
    · have c1' : (v2:Int) ≤ (y:Int) := by omega
      have hyx := hL.yx
      have hp := hL.pos
      have hxX : x * v2 ≤ X := by have := hL.idn; omega
      have hxb : x ≤ X := Nat.le_trans (Nat.le_mul_of_pos_right x hp) hxX
      have hv2 : v2 < 4294967296 := by
        rcases Nat.lt_or_ge v2 4294967296 with h | h
        · exact h
        · exfalso
          have : 4294967296 * 4294967296 ≤ x * v2 := Nat.mul_le_mul (by omega) h
          omega
      have hv1 := hL.bv1
      have ed : (x:Int) - (y:Int) = ((x - y : Nat) : Int) := by omega
      by_cases c2 : v1 + v2 ≤ x - y
      · have c2' : (v1:Int) + (v2:Int) ≤ ((x - y : Nat) : Int) := by omega
        have hF := unhide HF
        have hLs := hL.step hF.1 hF.2.1 hF.2.2.1 hF.2.2.2.1 hF.2.2.2.2.1 hF.2.2.2.2.2 c1 c2
        have hy1 : 1 ≤ y := by omega
        have hqy : x / y * y ≤ x := Nat.div_mul_le_self x y
        have hm : x - x / y * y < y := by
          have h1 := Nat.div_add_mod x y
          have h2 := Nat.mod_lt x hy1
          rw [Nat.mul_comm] at h1
          omega
        have n2 : v1 + x / y * v2 ≤ X := by
          have h1 := hLs.idn
          have h2 : 1 * (v1 + x / y * v2) ≤ y * (v1 + x / y * v2) := Nat.mul_le_mul_right _ hy1
          omega
        have n1 : u1 + x / y * u2 ≤ v1 + x / y * v2 := hLs.le2
        have eq1 : (x:Int).tdiv (y:Int) = ((x / y : Nat) : Int) := by rw [Int.tdiv_eq_ediv_of_nonneg (by omega), Int.natCast_ediv]
        have eq2 : (x:Int) / (y:Int) = ((x / y : Nat) : Int) := by rw [Int.natCast_ediv]
        have hqb : x / y ≤ x := Nat.div_le_self _ _
        have hu1 := hL.bu1
        have HLs := hide hLs
        generalize x / y = q at *
        have ep1 : (q:Int) * (y:Int) = ((q * y : Nat) : Int) := by rw [Int.natCast_mul]
        have ep2 : (q:Int) * (u2:Int) = ((q * u2 : Nat) : Int) := by rw [Int.natCast_mul]
        have ep3 : (q:Int) * (v2:Int) = ((q * v2 : Nat) : Int) := by rw [Int.natCast_mul]
        generalize hqyE : q * y = qy at *
        generalize hquE : q * u2 = qu at *
        generalize hqvE : q * v2 = qv at *
        have t0 : ¬ (y:Int) = 0 := by omega
        have HSt := hide (show St5 (((((wr.setCell ⟨bs, 0, none⟩ (.int .u64 (u1 : Nat))).setCell ⟨bs, 1, none⟩ (.int .u64 (u2 : Nat))).setCell ⟨bs, 2, none⟩ (.int .u64 (v1 : Nat))).setCell ⟨bs, 3, none⟩ (.int .u64 (v2 : Nat))).setCell ⟨bs, 4, none⟩ (.bool (!o))) bs (stv (!o) u1 u2 v1 v2) from
          (((((hS.set 0 _ (by decide)).set 1 _ (by decide)).set 2 _ (by decide)).set 3 _ (by decide)).set 4 _ (by decide)).congr (fun i hi => by
            match i, hi with
            | 0, _ | 1, _ | 2, _ | 3, _ | 4, _ => rfl))
        have hne : w.heap.size ≠ bs := by omega
        have HTt := hide (show St5 (((((wr.setCell ⟨bs, 0, none⟩ (.int .u64 (u1 : Nat))).setCell ⟨bs, 1, none⟩ (.int .u64 (u2 : Nat))).setCell ⟨bs, 2, none⟩ (.int .u64 (v1 : Nat))).setCell ⟨bs, 3, none⟩ (.int .u64 (v2 : Nat))).setCell ⟨bs, 4, none⟩ (.bool (!o))) w.heap.size (stv false 0 0 0 0) from
          ((((hT.other bs 0 _ hne).other bs 1 _ hne).other bs 2 _ hne).other bs 3 _ hne).other bs 4 _ hne)
        have hU := (((((Upd.refl bs 0 5 wr).set 0 (.int .u64 (u1 : Nat)) (by omega) (by omega)).set 1 (.int .u64 (u2 : Nat)) (by omega) (by omega)).set 2 (.int .u64 (v1 : Nat)) (by omega) (by omega)).set 3 (.int .u64 (v2 : Nat)) (by omega) (by omega)).set 4 (.bool (!o)) (by omega) (by omega)
        have HBt := hide (hB.trans (hU.below (by omega) hB.size))
        have HM := hide hm
        clear hL hLs hS hT hB hU hF hm hqyE hquE hqvE
        go_wp2_with fail
        have hm2 := unhide HM
        exact ⟨⟨!o, u1, u2, u1 + qu, v1, v2, v1 + qv, y, x - qy, rfl, by congr 1; omega, by congr 1, by congr 1, unhide HLs, unhide HSt, unhide HTt, unhide HBt⟩, by simp only [intOf]; omega⟩
      · have c2' : ¬ (v1:Int) + (v2:Int) ≤ ((x - y : Nat) : Int) := by omega
        have k0 := (hT 0 (by decide)).1
        have k1 := (hT 1 (by decide)).1
        have k2 := (hT 2 (by decide)).1
        have k3 := (hT 3 (by decide)).1
        have k4 := (hT 4 (by decide)).1
        have m0 := (hT 0 (by decide)).2
        have m1 := (hT 1 (by decide)).2
        have m2 := (hT 2 (by decide)).2
        have m3 := (hT 3 (by decide)).2
        have m4 := (hT 4 (by decide)).2
        simp only [stv] at k0 k1 k2 k3 k4
        have HLs := hide hL.steps
        have hU := (((((Upd.refl w.heap.size 0 5 wr).set 0 (.int .u64 (u0 : Nat)) (by omega) (by omega)).set 1 (.int .u64 (u1 : Nat)) (by omega) (by omega)).set 2 (.int .u64 (v0 : Nat)) (by omega) (by omega)).set 3 (.int .u64 (v1 : Nat)) (by omega) (by omega)).set 4 (.bool o) (by omega) (by omega)
        have HBt := hide (hB.trans (hU.below (Nat.le_refl _) hB.size))
        have HSt := hide (show St5 (((((wr.setCell ⟨w.heap.size, 0, none⟩ (.int .u64 (u0 : Nat))).setCell ⟨w.heap.size, 1, none⟩ (.int .u64 (u1 : Nat))).setCell ⟨w.heap.size, 2, none⟩ (.int .u64 (v0 : Nat))).setCell ⟨w.heap.size, 3, none⟩ (.int .u64 (v1 : Nat))).setCell ⟨w.heap.size, 4, none⟩ (.bool o)) w.heap.size (stv o u0 u1 v0 v1) from
          (((((hT.set 0 _ (by decide)).set 1 _ (by decide)).set 2 _ (by decide)).set 3 _ (by decide)).set 4 _ (by decide)).congr (fun i hi => by
            match i, hi with
            | 0, _ | 1, _ | 2, _ | 3, _ | 4, _ => rfl))
        clear hL hS hT hB hU
        go_wp2_with fail
        generalize (((((wr.setCell ⟨w.heap.size, 0, none⟩ (.int .u64 (u0 : Nat))).setCell ⟨w.heap.size, 1, none⟩ (.int .u64 (u1 : Nat))).setCell ⟨w.heap.size, 2, none⟩ (.int .u64 (v0 : Nat))).setCell ⟨w.heap.size, 3, none⟩ (.int .u64 (v1 : Nat))).setCell ⟨w.heap.size, 4, none⟩ (.bool o)) = wf at HSt HBt ⊢
        have p0 := (unhide HSt 0 (by decide)).1
        have p1 := (unhide HSt 1 (by decide)).1
        have p2 := (unhide HSt 2 (by decide)).1
        have p3 := (unhide HSt 3 (by decide)).1
        have p4 := (unhide HSt 4 (by decide)).1
        simp only [stv] at p0 p1 p2 p3 p4
        try simp only [Exit.inBlock, Exit.then]
        refine bodyPost_ret (by simp [results, Tryz.results163, go_sem, p0, p1, p2, p3, p4]; try rfl) rfl ?_
        exact ⟨o, u0, u1, v0, v1, unhide HLs, rfl, unhide HBt⟩
    · have c1' : ¬ (v2:Int) ≤ (y:Int) := by omega
      have k0 := (hT 0 (by decide)).1
      have k1 := (hT 1 (by decide)).1
      have k2 := (hT 2 (by decide)).1
      have k3 := (hT 3 (by decide)).1
      have k4 := (hT 4 (by decide)).1
      have m0 := (hT 0 (by decide)).2
      have m1 := (hT 1 (by decide)).2
      have m2 := (hT 2 (by decide)).2
      have m3 := (hT 3 (by decide)).2
      have m4 := (hT 4 (by decide)).2
      simp only [stv] at k0 k1 k2 k3 k4
      have HLs := hide hL.steps
      have hU := (((((Upd.refl w.heap.size 0 5 wr).set 0 (.int .u64 (u0 : Nat)) (by omega) (by omega)).set 1 (.int .u64 (u1 : Nat)) (by omega) (by omega)).set 2 (.int .u64 (v0 : Nat)) (by omega) (by omega)).set 3 (.int .u64 (v1 : Nat)) (by omega) (by omega)).set 4 (.bool o) (by omega) (by omega)
      have HBt := hide (hB.trans (hU.below (Nat.le_refl _) hB.size))
      have HSt := hide (show St5 (((((wr.setCell ⟨w.heap.size, 0, none⟩ (.int .u64 (u0 : Nat))).setCell ⟨w.heap.size, 1, none⟩ (.int .u64 (u1 : Nat))).setCell ⟨w.heap.size, 2, none⟩ (.int .u64 (v0 : Nat))).setCell ⟨w.heap.size, 3, none⟩ (.int .u64 (v1 : Nat))).setCell ⟨w.heap.size, 4, none⟩ (.bool o)) w.heap.size (stv o u0 u1 v0 v1) from
        (((((hT.set 0 _ (by decide)).set 1 _ (by decide)).set 2 _ (by decide)).set 3 _ (by decide)).set 4 _ (by decide)).congr (fun i hi => by
          match i, hi with
          | 0, _ | 1, _ | 2, _ | 3, _ | 4, _ => rfl))
      clear hL hS hT hB hU
      go_wp2_with fail
      generalize (((((wr.setCell ⟨w.heap.size, 0, none⟩ (.int .u64 (u0 : Nat))).setCell ⟨w.heap.size, 1, none⟩ (.int .u64 (u1 : Nat))).setCell ⟨w.heap.size, 2, none⟩ (.int .u64 (v0 : Nat))).setCell ⟨w.heap.size, 3, none⟩ (.int .u64 (v1 : Nat))).setCell ⟨w.heap.size, 4, none⟩ (.bool o)) = wf at HSt HBt ⊢
      have p0 := (unhide HSt 0 (by decide)).1
      have p1 := (unhide HSt 1 (by decide)).1
      have p2 := (unhide HSt 2 (by decide)).1
      have p3 := (unhide HSt 3 (by decide)).1
      have p4 := (unhide HSt 4 (by decide)).1
      simp only [stv] at p0 p1 p2 p3 p4
      try simp only [Exit.inBlock, Exit.then]
      refine bodyPost_ret (by simp [results, Tryz.results163, go_sem, p0, p1, p2, p3, p4]; try rfl) rfl ?_
      exact ⟨o, u0, u1, v0, v1, unhide HLs, rfl, unhide HBt⟩
end Go.Proofs.YtmnlhnmlgncedaaGreatDoor
