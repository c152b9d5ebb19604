/- Gb -/
import Derived.Test.YtcajmdfcanopnaaDoorNum
import Derived.Test.YtcajmdfcanopnaaDoorDv5
import Derived.Test.YtcajmdfcanopnaaDoorRd1
namespace Go.Proofs.YtcajmdfcanopnaaDoor
set_option linter.unusedVariables false
def Dif (o:Bool) (p q A B r:Nat):Prop:=if o then r + q * B = p * A else r + p * A = q * B
theorem dif_true {p q A B r:Nat}:Dif true p q A B r ↔ r + q * B = p * A:=Iff.rfl
theorem dif_false {p q A B r:Nat}:Dif false p q A B r ↔ r + p * A = q * B:=by simp [Dif]

theorem top_mul (K p X α:Nat):p * (K * X + α) = K * (p * X) + p * α:=by rw [Nat.mul_add,← Nat.mul_assoc,Nat.mul_comm p K,Nat.mul_assoc]

theorem dif_top {o:Bool} {p q X Y r A B K α β:Nat} (h:Dif o p q X Y r) (hA:A = K * X + α) (hB:B = K * Y + β) (ha:α < K) (hb:β < K) (hpq:p ≤ q) (hq:q ≤ r):∃ R,Dif o p q A B R ∧ (1 ≤ q → 1 ≤ R):=by
 have h1:K * q ≤ K * r:=Nat.mul_le_mul_left K hq
 have h2:p * α ≤ q * α:=Nat.mul_le_mul_right α hpq
 have h3:q * α ≤ q * K:=Nat.mul_le_mul_left q (Nat.le_of_lt ha)
 have h4:q * β ≤ q * K:=Nat.mul_le_mul_left q (Nat.le_of_lt hb)
 have h5:q * K = K * q:=Nat.mul_comm _ _
 have h6:1 ≤ q → q * α < q * K:=fun h => Nat.mul_lt_mul_of_pos_left ha h
 have h7:1 ≤ q → q * β < q * K:=fun h => Nat.mul_lt_mul_of_pos_left hb h
 subst hA hB
 cases o
 ·rw [dif_false] at h
  have e:K * r + K * (p * X) = K * (q * Y):=by rw [← Nat.mul_add,h]
  refine ⟨K * r + q * β - p * α,?_,?_⟩
  ·rw [dif_false,top_mul,top_mul]; omega
  ·intro h0; have:=h6 h0; omega
 ·rw [dif_true] at h
  have e:K * r + K * (q * Y) = K * (p * X):=by rw [← Nat.mul_add,h]
  refine ⟨K * r + p * α - q * β,?_,?_⟩
  ·rw [dif_true,top_mul,top_mul]; omega
  ·intro h0; have:=h7 h0; omega

theorem dif_sub {o:Bool} {u1 v1 u2 v2 A B r s d:Nat} (h1:Dif o u1 v1 A B r) (h2:Dif (!o) u2 v2 A B s):Dif o (u1 + u2) (v1 + v2) A B d ↔ d + s = r:=by
 cases o
 ·rw [dif_false] at *
  rw [show (!false) = true from rfl,dif_true] at h2
  rw [Nat.add_mul,Nat.add_mul]
  omega
 ·rw [dif_true] at *
  rw [show (!true) = false from rfl,dif_false] at h2
  rw [Nat.add_mul,Nat.add_mul]
  omega

theorem dif_step {o:Bool} {u1 v1 u2 v2 A B x y q z:Nat} (h1:Dif o u1 v1 A B x) (h2:Dif (!o) u2 v2 A B y) (hz:z + q * y = x):Dif o (u1 + q * u2) (v1 + q * v2) A B z:=by
 have e:∀ (p C:Nat),(q * p) * C = q * (p * C):=fun p C => Nat.mul_assoc _ _ _
 cases o
 ·rw [dif_false] at *
  rw [show (!false) = true from rfl,dif_true] at h2
  have e2:q * y + q * (v2 * B) = q * (u2 * A):=by rw [← Nat.mul_add,h2]
  rw [Nat.add_mul,Nat.add_mul,e,e]
  omega
 ·rw [dif_true] at *
  rw [show (!true) = false from rfl,dif_false] at h2
  have e2:q * y + q * (u2 * A) = q * (v2 * B):=by rw [← Nat.mul_add,h2]
  rw [Nat.add_mul,Nat.add_mul,e,e]
  omega

structure Whole (A B:Nat) (o:Bool) (u0 u1 u2 v0 v1 v2 R0 R1 q:Nat):Prop where
 d0:Dif (!o) u0 v0 A B R0
 d1:Dif o u1 v1 A B R1
 lt:R1 < R0
 gcd:Nat.gcd R0 R1 = Nat.gcd A B
 leB:R1 ≤ B
 le0:v0 ≠ 0 → R0 ≤ B
 u2e:u2 = u0 + q * u1
 v2e:v2 = v0 + q * v1

structure Leh (A B X Y:Nat) (o:Bool) (u0 u1 u2 v0 v1 v2 x y:Nat):Prop where
 hx:Dif o u1 v1 X Y x
 hy:Dif (!o) u2 v2 X Y y
 le1:u1 + u2 ≤ v1 + v2
 le2:u2 ≤ v2
 pos:1 ≤ v2
 idn:x * v2 + y * v1 = X
 yx:y ≤ x
 bu0:u0 < 4294967296
 bu1:u1 < 4294967296
 bv0:v0 < 4294967296
 bv1:v1 < 4294967296
 st:(v1 = 0 ∧ v0 = 0 ∧ o = true ∧ u1 = 1 ∧ u2 = 0 ∧ v2 = 1) ∨ (1 ≤ v1 ∧ ∃ R0 R1 q,Whole A B o u0 u1 u2 v0 v1 v2 R0 R1 q)

theorem Leh.start {A B X Y:Nat} (h:Y ≤ X):Leh A B X Y true 0 1 0 0 0 1 X Y :=
 ⟨by rw [dif_true]; simp,by rw [show (!true) = false from rfl,dif_false]; simp,by omega,by omega,by omega,by simp,h,by decide,by decide,by decide,by decide,.inl ⟨rfl,rfl,rfl,rfl,rfl,rfl⟩⟩

theorem sq_lt {v x X:Nat} (h1:v < x) (h2:x * v ≤ X) (h3:X < 18446744073709551616):v < 4294967296:=by
 rcases Nat.lt_or_ge v 4294967296 with h | h
 ·exact h
 ·exfalso
  have:4294967296 * 4294967296 ≤ x * v:=Nat.mul_le_mul (by omega) h
  omega

theorem gcd_step {a b c q:Nat} (h:c + q * b = a):Nat.gcd b c = Nat.gcd a b:=by
 rw [← h,Nat.gcd_comm (c + q * b) b,Nat.mul_comm q b,Nat.gcd_add_mul_left_right]

theorem Leh.step {A B X Y K α β:Nat} {o:Bool} {u0 u1 u2 v0 v1 v2 x y:Nat} (h:Leh A B X Y o u0 u1 u2 v0 v1 v2 x y) (hA:A = K * X + α) (hB:B = K * Y + β) (ha:α < K) (hb:β < K) (hX:X < 18446744073709551616) (hBA:B ≤ A)
  (c1:v2 ≤ y) (c2:v1 + v2 ≤ x - y):Leh A B X Y (!o) u1 u2 (u1 + x / y * u2) v1 v2 (v1 + x / y * v2) y (x - x / y * y):=by
 have hy1:1 ≤ y:=Nat.le_trans h.pos c1
 have hxy:y < x:=by have:=h.pos; omega
 have hdm:=Nat.div_add_mod x y
 have hml:=Nat.mod_lt x hy1
 rw [Nat.mul_comm] at hdm
 have hq1:1 ≤ x / y:=(Nat.le_div_iff_mul_le hy1).2 (by omega)
 have hxv:x * v2 ≤ X:=by have:=h.idn; omega
 have hv2:v2 < 4294967296:=sq_lt (v:=v2) (x:=x) (by omega) hxv hX
 generalize x / y = q at *
 have hz:(x - q * y) + q * y = x:=by omega
 obtain ⟨R2,hR2,hR2p⟩:=dif_top h.hy hA hB ha hb h.le2 c1
 have hdxy:Dif o (u1 + u2) (v1 + v2) X Y (x - y):=(dif_sub h.hx h.hy).2 (by omega)
 obtain ⟨Rd,hRd,hRdp⟩:=dif_top hdxy hA hB ha hb h.le1 c2
 have hRdp':=hRdp (by have:=h.pos; omega)
 have hqv:q * v2 = v2 + (q - 1) * v2:=by
  rw [Nat.sub_mul,Nat.one_mul]
  have:1 * v2 ≤ q * v2:=Nat.mul_le_mul_right v2 hq1
  omega
 have hqu:q * u2 = u2 + (q - 1) * u2:=by
  rw [Nat.sub_mul,Nat.one_mul]
  have:1 * u2 ≤ q * u2:=Nat.mul_le_mul_right u2 hq1
  omega
 have hquv:(q - 1) * u2 ≤ (q - 1) * v2:=Nat.mul_le_mul_left _ h.le2
 refine ⟨h.hy,by rw [Bool.not_not]; exact dif_step h.hx h.hy hz,?_,?_,?_,?_,by omega,h.bu1,by have:=h.le2; omega,h.bv1,hv2,?_⟩
 ·have:=h.le1; have:=h.le2; omega
 ·have:=h.le1; have:=h.le2; omega
 ·have:=h.pos; omega
 ·have e1:y * (v1 + q * v2) + (x - q * y) * v2 = X:=by
   rw [Nat.mul_add,Nat.sub_mul,← Nat.mul_assoc y q,Nat.mul_comm y q]
   have hle:q * y * v2 ≤ x * v2:=Nat.mul_le_mul_right v2 (by omega)
   have:=h.idn
   omega
  exact e1
 ·right
  refine ⟨h.pos,?_⟩
  rcases h.st with ⟨s1,s2,s3,s4,s5,s6⟩ | ⟨s1,R0,R1,q0,W⟩
  ·subst s1 s2 s3 s4 s5 s6
   have hRB:R2 = B:=by rw [show (!true) = false from rfl,dif_false] at hR2; omega
   subst hRB
   have hRA:Dif true 1 0 A R2 A:=by rw [dif_true]; simp
   have hlt:=(dif_sub hRA hR2).1 hRd
   exact ⟨A,R2,q,by rw [Bool.not_not]; exact hRA,hR2,by omega,rfl,Nat.le_refl _,by simp,rfl,rfl⟩
  ·have hlt:=(dif_sub W.d1 hR2).1 hRd
   have hR:R2 + q0 * R1 = R0:=by
    have hz2:∃ z,z + q0 * R1 = R0 ∨ R0 + z = q0 * R1:=by
     rcases Nat.le_total (q0 * R1) R0 with k | k
     ·exact ⟨R0 - q0 * R1,.inl (by omega)⟩
     ·exact ⟨q0 * R1 - R0,.inr (by omega)⟩
    have e:∀ (p C:Nat),(q0 * p) * C = q0 * (p * C):=fun p C => Nat.mul_assoc _ _ _
    have d0:=W.d0
    have d1:=W.d1
    rw [W.u2e,W.v2e] at hR2
    cases o
    ·rw [show (!false) = true from rfl,dif_true] at d0 hR2
     rw [dif_false] at d1
     have e2:q0 * R1 + q0 * (u1 * A) = q0 * (v1 * B):=by rw [← Nat.mul_add,d1]
     rw [Nat.add_mul,Nat.add_mul,e,e] at hR2
     omega
    ·rw [show (!true) = false from rfl,dif_false] at d0 hR2
     rw [dif_true] at d1
     have e2:q0 * R1 + q0 * (v1 * B) = q0 * (u1 * A):=by rw [← Nat.mul_add,d1]
     rw [Nat.add_mul,Nat.add_mul,e,e] at hR2
     omega
   exact ⟨R1,R2,q,by rw [Bool.not_not]; exact W.d1,hR2,by omega,(gcd_step hR).trans W.gcd,by have:=W.leB; omega,fun _ => W.leB,rfl,rfl⟩
open Go.RowKit Go.Deep
set_option linter.unusedVariables false

def topN (xs:List Nat) (n s:Nat):Nat:=(xs.getD (n - 2) 0 + 4294967296 * xs.getD (n - 1) 0) * 2 ^ s + xs.getD (n - 3) 0 / 2 ^ (32 - s)

theorem top_arith {L P S l m t:Nat} (hPS:P * S = 4294967296):L + (l + 4294967296 * (m + 4294967296 * t)) = P * ((m + 4294967296 * t) * S + l / P) + (L + l % P):=by
 have h1:=Nat.div_add_mod l P
 have e:P * ((m + 4294967296 * t) * S) = 4294967296 * (m + 4294967296 * t):=by rw [Nat.mul_comm (m + 4294967296 * t) S,← Nat.mul_assoc,hPS]
 have e2:P * ((m + 4294967296 * t) * S + l / P) = P * ((m + 4294967296 * t) * S) + P * (l / P):=Nat.mul_add _ _ _
 rw [e2,e]
 omega

theorem top_val {xs:List Nat} {n s:Nat} (ox:Ok xs) (hl:xs.length ≤ n) (hn:3 ≤ n) (hs:s ≤ 31) :
  ∃ α,val xs = 2 ^ (32 * (n - 3) + (32 - s)) * topN xs n s + α ∧ α < 2 ^ (32 * (n - 3) + (32 - s)):=by
 have e1:=valF_add (fun i => xs.getD i 0) (n - 3) 3
 rw [show n - 3 + 3 = n from by omega,valF_ge xs n hl] at e1
 simp only [valF,Nat.pow_zero,Nat.one_mul,Nat.zero_add,Nat.pow_one,Nat.add_zero] at e1
 rw [show n - 3 + 1 = n - 2 from by omega,show n - 3 + 2 = n - 1 from by omega] at e1
 have hL:=valF_lt (f:=fun i => xs.getD i 0) (n:=n - 3) (fun i _ => ox.getD i)
 rw [pow_limb] at e1 hL
 generalize valF (fun i => xs.getD i 0) (n - 3) = L at *
 have hP:2 ^ (32 - s) * 2 ^ s = 4294967296:=by rw [← Nat.pow_add,show 32 - s + s = 32 from by omega]
 have hpos:0 < 2 ^ (32 - s):=Nat.two_pow_pos _
 have hm:=Nat.mod_lt (xs.getD (n - 3) 0) hpos
 have hA:=top_arith (L:=0) (l:=xs.getD (n - 3) 0) (m:=xs.getD (n - 2) 0) (t:=xs.getD (n - 1) 0) hP
 unfold topN
 rw [Nat.pow_add]
 generalize 2 ^ (32 * (n - 3)) = Q at *
 generalize 2 ^ (32 - s) = P at *
 generalize xs.getD (n - 3) 0 = l at *
 generalize xs.getD (n - 2) 0 = m at *
 generalize xs.getD (n - 1) 0 = t at *
 refine ⟨L + Q * (l % P),?_,?_⟩
 ·rw [e1,show (l + 4294967296 * m + 4294967296 ^ 2 * t) = 0 + (l + 4294967296 * (m + 4294967296 * t)) from by omega,hA,Nat.mul_add,Nat.zero_add,← Nat.mul_assoc]
  omega
 ·have:Q * (l % P) + Q ≤ Q * P:=by
   rw [← Nat.mul_succ]
   exact Nat.mul_le_mul_left Q hm
  omega

theorem top_lt {xs:List Nat} {n s:Nat} (ox:Ok xs) (hs:s ≤ 31) (ht:xs.getD (n - 1) 0 * 2 ^ s < 4294967296):topN xs n s < 18446744073709551616 ∧ (xs.getD (n - 2) 0 + 4294967296 * xs.getD (n - 1) 0) * 2 ^ s + 2 ^ s ≤ 18446744073709551616 ∧ xs.getD (n - 3) 0 / 2 ^ (32 - s) < 2 ^ s:=by
 have hP:2 ^ (32 - s) * 2 ^ s = 4294967296:=by rw [← Nat.pow_add,show 32 - s + s = 32 from by omega]
 have h1:=ox.getD (n - 2)
 have h3:=ox.getD (n - 3)
 have hS:0 < 2 ^ s:=Nat.two_pow_pos _
 have hd:xs.getD (n - 3) 0 / 2 ^ (32 - s) < 2 ^ s:=by
  rw [Nat.div_lt_iff_lt_mul (Nat.two_pow_pos _),Nat.mul_comm,hP]
  exact h3
 unfold topN
 generalize xs.getD (n - 3) 0 / 2 ^ (32 - s) = d at *
 generalize xs.getD (n - 2) 0 = m at *
 generalize xs.getD (n - 1) 0 = t at *
 generalize 2 ^ (32 - s) = P at *
 generalize 2 ^ s = S at *
 -- t S < 2^32 and S divides 2^32: t S + S <= 2^32
 have hk:t * S + S ≤ 4294967296:=by
  rw [← hP,← Nat.succ_mul]
  rw [← hP] at ht
  exact Nat.mul_le_mul_right S (Nat.lt_of_mul_lt_mul_right ht)
 have hm:m * S + S ≤ 4294967296 * S:=by
  rw [← Nat.succ_mul]
  exact Nat.mul_le_mul_right S h1
 have e:(m + 4294967296 * t) * S = m * S + 4294967296 * (t * S):=by rw [Nat.add_mul,Nat.mul_assoc]
 rw [e]
 exact ⟨by omega,by omega,hd⟩

theorem or_low {h S d:Nat} {s:Nat} (hS:S = 2 ^ s) (hd:d < S) (hb:h * S + S ≤ 18446744073709551616):bits .or .u64 ((h * S:Nat):Int) (d:Int) = ((h * S + d:Nat):Int):=by
 have h1:h * S < 18446744073709551616:=by omega
 have h2:d < 18446744073709551616:=by omega
 rw [u64_or_nat _ _ h1 h2]
 congr 1
 have:=Nat.shiftLeft_add_eq_or_of_lt (i:=s) (b:=d) (by rw [← hS]; exact hd) h
 rw [Nat.shiftLeft_eq,← hS] at this
 exact this.symm

set_option maxHeartbeats 4000000 in
theorem topWord_any (a:Option Addr) (m c:Nat) (xs:List Nat) (n s:Nat) (w:World) (h:Sl w a m c xs) (ox:Ok xs) (hn:3 ≤ n) (hn2:n ≤ 1000000) (hs:s ≤ 31) (ht:xs.getD (n - 1) 0 * 2 ^ s < 4294967296) :
  Calls Tryd.prog 79 #[.slice a m c,.int .i64 (n:Nat),.int .i64 (s:Nat)] w fun e w' => e = .returned (.int .u64 (topN xs n s:Nat)) ∧ ∃ k,w' = w.drewN k:=by
 have K1:=limbAt_any a m c xs ((n:Int) - 1) w h (by omega)
 have K2:=limbAt_any a m c xs ((n:Int) - 2) w h (by omega)
 have K3:=fun j => limbAt_any a m c xs ((n:Int) - 3) (w.drewN j) (h.drewN j) (by omega)
 rw [show ((n:Int) - 1).toNat = n - 1 from by omega] at K1
 rw [show ((n:Int) - 2).toNat = n - 2 from by omega] at K2
 rw [show ((n:Int) - 3).toNat = n - 3 from by omega] at K3
 have hT:=top_lt ox hs ht
 have b1:=ox.getD (n - 1)
 have b2:=ox.getD (n - 2)
 have b3:=ox.getD (n - 3)
 unfold topN at hT ⊢
 generalize xs.getD (n - 1) 0 = t at *
 generalize xs.getD (n - 2) 0 = m' at *
 generalize xs.getD (n - 3) 0 = l at *
 have e1:=or_halves t m' b1 b2
 have e2:(((m' + 4294967296 * t:Nat):Int)) * 2 ^ s = (((m' + 4294967296 * t) * 2 ^ s:Nat):Int):=by rw [Int.natCast_mul,Int.natCast_pow]; rfl
 have e3:(32:Int) - (s:Int) = ((32 - s:Nat):Int):=by omega
 have e4:(l:Int) / 2 ^ (32 - s) = ((l / 2 ^ (32 - s):Nat):Int):=by rw [Int.natCast_ediv,Int.natCast_pow]; rfl
 have e5:=or_low (h:=m' + 4294967296 * t) (s:=s) rfl hT.2.2 hT.2.1
 have hd:=hT.2.2
 have hb:=hT.2.1
 have hr:=hT.1
 have hhb:m' + 4294967296 * t < 18446744073709551616:=by omega
 generalize hh:m' + 4294967296 * t = hd0 at *
 have hle:hd0 * 2 ^ s < 18446744073709551616:=by have:=Nat.two_pow_pos s; omega
 generalize hh2:hd0 * 2 ^ s = hs0 at *
 have hl2:l / 2 ^ (32 - s) < 4294967296:=Nat.lt_of_le_of_lt (Nat.div_le_self _ _) b3
 generalize l / 2 ^ (32 - s) = d at *
 generalize hh3:32 - s = r at *
 have K1':=Hj K1
 have K2':=Hj K2
 have K3':=Hj K3
 clear K1 K2 K3 h hT ht hh hh2 hh3
 go_enter Tryd.func79,Tryd.ntmps79
 go_wp2_with fail
 refine (Uh K1').mono ?_
 rintro e w' ⟨rfl,hw⟩
 obtain rfl:=hw.symm
 go_wp2_with fail
 refine (Uh K2').mono ?_
 rintro e w' ⟨rfl,hw⟩
 obtain rfl:=hw.symm
 go_wp2_with fail
 go_quiet ((go_at_call 77; exact Calls.quiet_of_same (Uh K3' _)))
 go_wp2
 go_ret
 exact ⟨rfl,_,rfl⟩
end Go.Proofs.YtcajmdfcanopnaaDoor
