/- Rn1 -/
import Derived.Test.YtlolnaegfponeaaGreatDoorRz5
import Derived.Test.YtlolnaegfponeaaGreatDoorWic
namespace Go.Proofs.YtlolnaegfponeaaGreatDoor
open Go.RowKit Go.Deep
set_option linter.unusedVariables false
def flV (s:Nat):Nat:=ffN s * 2 ^ ffE s
theorem flV_low {s:Nat} (h:s < 4503599627370496):flV s = s:=by
 have e:exB s = 0:=by unfold exB; omega
 have f:frB s = s:=by unfold frB; omega
 unfold flV ffN ffE
 rw [e,f]
 simp
theorem flV_mid {U R:Nat} (h1:4503599627370496 ≤ R) (h2:R < 9007199254740992) (hU:U < 2047):flV (U * 4503599627370496 + R) = R * 2 ^ U:=by
 have e:exB (U * 4503599627370496 + R) = U + 1:=by unfold exB; omega
 have f:frB (U * 4503599627370496 + R) = R - 4503599627370496:=by unfold frB; omega
 unfold flV ffN ffE
 rw [e,f,if_neg (by omega),Nat.add_sub_cancel]
 congr 1
 omega
theorem flV_top {U:Nat} (hU:U < 2046):flV (U * 4503599627370496 + 9007199254740992) = 9007199254740992 * 2 ^ U:=by
 have h:=flV_mid (U:=U + 1) (R:=4503599627370496) (by omega) (by omega) (by omega)
 have e:U * 4503599627370496 + 9007199254740992 = (U + 1) * 4503599627370496 + 4503599627370496:=by omega
 rw [e,h,Nat.pow_succ]
 omega
structure IsFl (s U R:Nat):Prop where
 eq:s = U * 4503599627370496 + R
 le:R ≤ 9007199254740992
 ge:0 < U → 4503599627370496 ≤ R
 fin:s < 9218868437227405312
theorem IsFl.val {s U R:Nat} (h:IsFl s U R):flV s = R * 2 ^ U:=by
 obtain ⟨h1,h2,h3,h4⟩:=h
 subst h1
 by_cases k:R < 4503599627370496
 ·have:U = 0:=by
   rcases Nat.eq_zero_or_pos U with e | e
   ·exact e
   ·have:=h3 e; omega
  subst this
  rw [Nat.zero_mul,Nat.zero_add,flV_low k]
  simp
 ·by_cases k2:R < 9007199254740992
  ·exact flV_mid (by omega) k2 (by omega)
  ·have:R = 9007199254740992:=by omega
   subst this
   exact flV_top (by omega)
theorem IsFl.up {s U R:Nat} (h:IsFl s U R) (h4:s + 1 < 9218868437227405312):flV (s + 1) = (R + 1) * 2 ^ U ∨ (R = 9007199254740992 ∧ flV (s + 1) = (R + 2) * 2 ^ U):=by
 by_cases k:R < 9007199254740992
 ·exact .inl (IsFl.val ⟨by rw [h.eq]; omega,by omega,fun e => by have:=h.ge e; omega,h4⟩)
 ·have e:R = 9007199254740992:=by have:=h.le; omega
  refine .inr ⟨e,?_⟩
  have hf:IsFl (s + 1) (U + 1) 4503599627370497:=⟨by rw [h.eq,e]; omega,by omega,fun _ => by omega,h4⟩
  rw [hf.val,e,Nat.pow_succ]
  omega
theorem IsFl.down {s U R:Nat} (h:IsFl s U R) (h0:0 < s):(0 < R ∧ flV (s - 1) = (R - 1) * 2 ^ U) ∨ (∃ V,U = V + 1 ∧ R = 4503599627370496 ∧ flV (s - 1) = 9007199254740991 * 2 ^ V):=by
 by_cases k:U = 0 ∨ 4503599627370496 < R
 ·refine .inl ⟨?_,IsFl.val ⟨?_,?_,?_,?_⟩⟩
  ·rcases k with k | k
   ·have:=h.eq; rw [k] at this; omega
   ·omega
  ·have:=h.eq
   have:0 < R:=by
    rcases k with k | k
    ·rw [k] at this; omega
    ·omega
   omega
  ·have:=h.le; omega
  ·intro e; omega
  ·have:=h.fin; omega
 ·have k1:U ≠ 0 ∧ R ≤ 4503599627370496:=by omega
  have k2:=h.ge (by omega)
  have e:R = 4503599627370496:=by omega
  refine .inr ⟨U - 1,by omega,e,IsFl.val ⟨?_,by omega,fun _ => by omega,?_⟩⟩
  ·have:=h.eq; omega
  ·have:=h.fin; omega
def dif (a b:Nat):Nat:=(a - b) + (b - a)
theorem rd_near {A B:Nat} (hB:0 < B):2 * dif A (rdQ A B * B) ≤ B ∧ (2 * dif A (rdQ A B * B) = B → rdQ A B % 2 = 0):=by
 have hd:=Nat.div_add_mod A B
 have hm:=Nat.mod_lt A hB
 obtain ⟨r,hr⟩:∃ r,A % B = r:=⟨_,rfl⟩
 obtain ⟨Q,hQ⟩:∃ Q,A / B = Q:=⟨_,rfl⟩
 unfold rdQ
 rw [hr,hQ] at hd ⊢
 rw [hr] at hm
 have hc:B * Q = Q * B:=Nat.mul_comm _ _
 unfold dif
 split
 ·next h =>
  rw [Nat.add_mul,Nat.one_mul]
  generalize Q * B = QB at *
  omega
 ·next h =>
  generalize Q * B = QB at *
  omega
theorem near_up {A Y s U R:Nat} (hY:0 < Y) (h:IsFl s U R) (hR:rdQ A (Y * 2 ^ U) = R) (h4:s + 1 < 9218868437227405312):dif A (flV s * Y) ≤ dif A (flV (s + 1) * Y) ∧ (dif A (flV s * Y) = dif A (flV (s + 1) * Y) → s % 2 = 0):=by
 have hB:0 < Y * 2 ^ U:=Nat.mul_pos hY (Nat.two_pow_pos U)
 have hn:=rd_near (A:=A) hB
 rw [hR] at hn
 have e0:flV s * Y = R * (Y * 2 ^ U):=by rw [h.val,Nat.mul_assoc,Nat.mul_comm (2 ^ U)]
 have hs:s % 2 = R % 2:=by have:=h.eq; omega
 rw [e0,hs]
 rcases h.up h4 with e | ⟨e1,e⟩
 ·have e2:flV (s + 1) * Y = R * (Y * 2 ^ U) + Y * 2 ^ U:=by rw [e,Nat.mul_assoc,Nat.mul_comm (2 ^ U),Nat.add_mul,Nat.one_mul]
  rw [e2]
  generalize R * (Y * 2 ^ U) = RB at *
  generalize Y * 2 ^ U = B at *
  unfold dif at *
  omega
 ·have e2:flV (s + 1) * Y = R * (Y * 2 ^ U) + 2 * (Y * 2 ^ U):=by rw [e,Nat.mul_assoc,Nat.mul_comm (2 ^ U),Nat.add_mul]
  rw [e2]
  generalize R * (Y * 2 ^ U) = RB at *
  generalize Y * 2 ^ U = B at *
  unfold dif at *
  omega
theorem near_down {A Y s U R:Nat} (hY:0 < Y) (h:IsFl s U R) (hR:rdQ A (Y * 2 ^ U) = R) (h0:0 < s) (hge:0 < U → 4503599627370496 * (Y * 2 ^ U) ≤ A):dif A (flV s * Y) ≤ dif A (flV (s - 1) * Y) ∧ (dif A (flV s * Y) = dif A (flV (s - 1) * Y) → s % 2 = 0):=by
 have hB:0 < Y * 2 ^ U:=Nat.mul_pos hY (Nat.two_pow_pos U)
 have hn:=rd_near (A:=A) hB
 rw [hR] at hn
 have e0:flV s * Y = R * (Y * 2 ^ U):=by rw [h.val,Nat.mul_assoc,Nat.mul_comm (2 ^ U)]
 have hs:s % 2 = R % 2:=by have:=h.eq; omega
 rw [e0,hs]
 rcases h.down h0 with ⟨k,e⟩ | ⟨V,e1,e2,e⟩
 ·have e2:flV (s - 1) * Y + Y * 2 ^ U = R * (Y * 2 ^ U):=by
   rw [e,Nat.mul_assoc,Nat.mul_comm (2 ^ U),← Nat.succ_mul]
   congr 1
   omega
  generalize flV (s - 1) * Y = FB at *
  generalize R * (Y * 2 ^ U) = RB at *
  generalize Y * 2 ^ U = B at *
  unfold dif at *
  omega
 ·have hg:=hge (by omega)
  have e3:flV (s - 1) * Y + Y * 2 ^ V = R * (Y * 2 ^ U):=by
   rw [e,e2,e1,Nat.pow_succ,Nat.mul_assoc,Nat.mul_comm (2 ^ V),← Nat.mul_assoc Y]
   omega
  have hV:0 < Y * 2 ^ V:=Nat.mul_pos hY (Nat.two_pow_pos V)
  rw [← e2] at hg
  generalize flV (s - 1) * Y = FB at *
  generalize R * (Y * 2 ^ U) = RB at *
  generalize Y * 2 ^ V = B at *
  unfold dif at *
  omega

theorem rdE_E {p q X Y:Nat} (hX1:2 ^ p ≤ X * 2) (hX2:X < 2 ^ p) (hY1:2 ^ q ≤ Y * 2) (hY2:Y < 2 ^ q) (h:0 < flU p q X Y):4503599627370496 * (Y * 2 ^ flU p q X Y) ≤ X * 2 ^ kB:=by
 rcases flU_cases (p:=p) (q:=q) (X:=X) (Y:=Y) with ⟨h1,h2⟩ | ⟨h1,h2⟩
 ·rw [h1]
  exact fl_step h2
 ·rw [h1,two52]
  refine fl_above hX1 hY2 ?_
  rw [h1] at h
  unfold flG at h ⊢
  omega
theorem flN_is {x y:List Nat} (ox:Ok x) (oy:Ok y) (kx:MayL x = true) (ky:MayL y = true) (ex:x ≠ []) (ey:y ≠ []) (hf:flN (bitsN x) (bitsN y) (val x) (val y) ≠ 9218868437227405312) :
  ∃ U R,IsFl (flN (bitsN x) (bitsN y) (val x) (val y)) U R ∧ rdQ (val x * 2 ^ kB) (val y * 2 ^ U) = R ∧ (0 < U → 4503599627370496 * (val y * 2 ^ U) ≤ val x * 2 ^ kB):=by
 obtain ⟨x1,x2,x3,x4⟩:=bits_two ox kx ex
 obtain ⟨y1,y2,y3,y4⟩:=bits_two oy ky ey
 have hB:=rdE_B x1 x2 y1 y2
 have hD:=rdE_D x1 x2 y1 y2
 have hE:=rdE_E x1 x2 y1 y2
 unfold flN at hf ⊢
 obtain ⟨U,hU⟩:∃ U,flU (bitsN x) (bitsN y) (val x) (val y) = U:=⟨_,rfl⟩
 rw [hU] at hB hD hE hf ⊢
 by_cases k:2045 < U
 ·rw [if_pos k] at hf
  exact absurd rfl hf
 ·rw [if_neg k] at hf ⊢
  exact ⟨U,rdE (val x) (val y) U,⟨rfl,hB,hD,by omega⟩,rfl,hE⟩
def kT:Nat:=2045
theorem kT_eq:kT = 2045:=rfl
theorem flN_inf {x y:List Nat} (ox:Ok x) (oy:Ok y) (kx:MayL x = true) (ky:MayL y = true) (ex:x ≠ []) (ey:y ≠ []) (hf:flN (bitsN x) (bitsN y) (val x) (val y) = 9218868437227405312) :
  18014398509481983 * (val y * 2 ^ kT) ≤ 2 * (val x * 2 ^ kB):=by
 obtain ⟨x1,x2,x3,x4⟩:=bits_two ox kx ex
 obtain ⟨y1,y2,y3,y4⟩:=bits_two oy ky ey
 have hB:=rdE_B x1 x2 y1 y2
 have hE:=rdE_E x1 x2 y1 y2
 have hB':=rdE_B' x1 x2 y1 y2
 unfold flN at hf
 obtain ⟨U,hU⟩:∃ U,flU (bitsN x) (bitsN y) (val x) (val y) = U:=⟨_,rfl⟩
 rw [hU] at hB hE hB' hf
 obtain ⟨K,hK⟩:∃ K,K = kT:=⟨_,rfl⟩
 rw [← hK]
 rw [← kT_eq,← hK] at hf
 have hk2:K = 2045:=hK.trans kT_eq
 by_cases k:K < U
 ·have h1:=hE (by omega)
  have h2:val y * 2 ^ (K + 1) ≤ val y * 2 ^ U:=Nat.mul_le_mul_left _ (Nat.pow_le_pow_right (by decide) (by omega))
  rw [Nat.pow_succ,← Nat.mul_assoc] at h2
  generalize val y * 2 ^ K = YK at *
  generalize val y * 2 ^ U = YU at *
  generalize val x * 2 ^ kB = A at *
  omega
 ·rw [if_neg k] at hf
  have hr:rdE (val x) (val y) U = 9007199254740992:=by omega
  have hu:U = K:=by omega
  subst hu
  have hp:0 < val y * 2 ^ U:=fl_ypos y1 U
  have hn:=rd_near (A:=val x * 2 ^ kB) hp
  unfold rdE at hr
  rw [hr] at hn
  unfold dif at hn
  generalize val y * 2 ^ U = YU at *
  generalize val x * 2 ^ kB = A at *
  omega
def ByPost (N:Nat) (w w':World) (q r:Nat) (e:Ending):Prop:=∃ a n c ps a' m c',e = .returned (.tuple #[.slice a n c,.slice a' m c']) ∧ Wide w' a n c q ps ∧ n ≤ N ∧ Sl w' a' m c' (limbs r) ∧ Below w.heap.size w w'

theorem guess_ge {B d d1 d0 r x:Nat} (hB:0 < B) (hd:d = d1 * B + d0) (h1:0 < d1) (hx:x < B):(r * B + x) / d ≤ r / d1:=by
 rw [Nat.le_div_iff_mul_le h1]
 have hdp:0 < d:=by rw [hd]; exact Nat.lt_of_lt_of_le (Nat.mul_pos h1 hB) (Nat.le_add_right _ _)
 have hq:(r * B + x) / d * d ≤ r * B + x:=Nat.div_mul_le_self _ _
 generalize (r * B + x) / d = q at *
 have h2:q * d1 * B ≤ q * d:=by rw [hd,Nat.mul_add,Nat.mul_assoc]; exact Nat.le_add_right _ _
 have h3:q * d1 * B < (r + 1) * B:=by rw [Nat.add_mul]; omega
 exact Nat.le_of_lt_succ (Nat.lt_of_mul_lt_mul_right h3)
theorem digit_lt {B d r x:Nat} (hr:r < d) (hx:x < B):(r * B + x) / d < B:=by
 rw [Nat.div_lt_iff_lt_mul (by omega)]
 have h:(r + 1) * B ≤ d * B:=Nat.mul_le_mul_right _ hr
 rw [Nat.add_mul] at h
 rw [Nat.mul_comm B d]
 omega

theorem limbs_is_one {G:Nat}:limbs G = [1] ↔ G = 1:=by
 constructor
 ·intro h
  have:=(limbs_rep G).val
  rw [h] at this
  simpa [val] using this.symm
 ·intro h
  have:=limbs_val (xs:=[1]) (by intro x hx; simp at hx; subst hx; decide) (by simp [Norm])
  rw [h]
  simpa [val] using this

set_option maxHeartbeats 8000000 in
theorem cancel_any (N:Nat) (a1 a2:Option Addr) (n1 c1 n2 c2 v:Nat) (ps:List Pc) (ys:List Nat) (w:World) (h1:Wide w a1 n1 c1 v ps) (hn1:n1 ≤ N) (h2:Sl w a2 n2 c2 ys) (oy:Ok ys) (m2:MayL ys = true) (hy:ys ≠ []) (hT:Tab64 w)
  (hBy:∀ W a m c zs,Below w.heap.size w W → Sl W a m c zs → Ok zs → MayL zs = true → zs ≠ [] → Calls Tryz.prog 75 #[.slice a1 n1 c1,.slice a m c] W fun e w' => ByPost N W w' (v / val zs) (v % val zs) e) :
  Calls Tryz.prog 131 #[.slice a1 n1 c1,.slice a2 n2 c2] w fun e w' => ByPost N w w' (v / Nat.gcd v (val ys)) (val ys / Nat.gcd v (val ys)) e:=by
 have vy:=val_pos_of_may m2 hy
 have K1:=isOne_any a2 n2 c2 ys w h2 oy
 by_cases e1:ys = [1]
 ·rw [decide_eq_true e1] at K1
  have HE:=Hd (show v / Nat.gcd v (val ys) = v ∧ limbs (val ys / Nat.gcd v (val ys)) = ys from by
   have hv1:val ys = 1:=by rw [e1]; simp [val]
   refine ⟨by rw [hv1]; simp,?_⟩
   have:Nat.gcd v (val ys) = 1:=by rw [hv1]; simp
   rw [this,Nat.div_one]
   exact limbs_val oy (MayL.norm m2))
  have HK:=Hd K1
  have H:=Hd (And.intro h1 (And.intro hn1 h2))
  clear K1 e1 h1 h2 hBy hT
  go_enter Tryz.func131,Tryz.ntmps131
  go_wp2_with fail
  refine (Uh HK).mono ?_
  rintro _ _ ⟨rfl,hw⟩
  obtain rfl:=hw.symm
  clear hw
  go_wp2_with fail
  go_ret2
  exact ⟨a1,n1,c1,ps,a2,n2,c2,rfl,by rw [(Uh HE).1]; exact (Uh H).1,(Uh H).2.1,by rw [(Uh HE).2]; exact (Uh H).2.2,Below.refl _ _⟩
 ·rw [decide_eq_false e1] at K1
  have HK:=Hd K1
  have hgcd:Nat.gcd (v % val ys) (val ys) = Nat.gcd v (val ys):=by rw [Nat.gcd_comm v,Nat.gcd_rec (val ys) v]
  have mr:MayL (limbs (v % val ys)) = true:=may_small m2 oy (Nat.le_of_lt (Nat.mod_lt _ vy))
  have HB1:=Hd (hBy w a2 n2 c2 ys (Below.refl _ _) h2 oy m2 hy)
  have hgp:0 < Nat.gcd v (val ys):=Nat.gcd_pos_of_pos_right _ vy
  have mg:MayL (limbs (Nat.gcd v (val ys))) = true:=may_small m2 oy (Nat.gcd_le_right _ vy)
  obtain ⟨G,hG⟩:∃ G,Nat.gcd v (val ys) = G:=⟨_,rfl⟩
  rw [hG] at hgcd hgp mg ⊢
  have HG:=Hd hgcd
  clear K1 e1 hgcd hG
  go_enter Tryz.func131,Tryz.ntmps131
  go_wp2_with fail
  refine (Uh HK).mono ?_
  rintro _ _ ⟨rfl,hw⟩
  obtain rfl:=hw.symm
  clear hw
  go_wp2_with fail
  refine (Uh HB1).mono ?_
  rintro _ wb ⟨ab,nb,cb,bs,ar,mr_,cr,rfl,hWb,hnb,sr,hbb⟩
  have KD:=ratDivisor_any ar a2 mr_ cr n2 c2 (limbs (v % val ys)) ys wb sr (h2.below hbb) (limbs_rep _).ok oy mr m2 (hT.below hbb)
  rw [(limbs_rep _).val,Uh HG] at KD
  have HKD:=Hd KD
  have HBb:=Hd hbb
  clear KD hWb hnb sr hbb HB1 HK
  go_wp2_with fail
  refine (Uh HKD).mono ?_
  rintro _ wd ⟨ad,md,cd,rfl,sd,nd,bd⟩
  have hbd:=(Uh HBb).trans (bd.mono (Uh HBb).size)
  have KO:=isOne_any ad md cd (limbs G) wd sd (limbs_rep _).ok
  by_cases g1:G = 1
  ·rw [decide_eq_true (limbs_is_one.2 g1)] at KO
   have HKO:=Hd KO
   have H:=Hd (And.intro (h1.below hbd) (And.intro hn1 (And.intro (h2.below hbd) hbd)))
   have HL:=Hd (limbs_val oy (MayL.norm m2))
   clear KO HKD h1 h2 hBy hT sd nd bd hbd
   subst g1
   go_wp2_with fail
   refine (Uh HKO).mono ?_
   rintro _ _ ⟨rfl,hw⟩
   obtain rfl:=hw.symm
   clear hw
   go_wp2_with fail
   go_ret2
   exact ⟨a1,n1,c1,ps,a2,n2,c2,rfl,by rw [Nat.div_one]; exact (Uh H).1,(Uh H).2.1,by rw [Nat.div_one,Uh HL]; exact (Uh H).2.2.1,(Uh H).2.2.2⟩
  ·rw [decide_eq_false (fun h => g1 (limbs_is_one.1 h))] at KO
   have HKO:=Hd KO
   have nzG:limbs G ≠ []:=limbs_ne hgp
   have KB:=hBy wd ad md cd (limbs G) hbd sd (limbs_rep _).ok mg nzG
   rw [(limbs_rep _).val] at KB
   have HKB:=Hd KB
   have HQ:=Hd (fun (W:World) (hb:Below wd.heap.size wd W) => (by have K:=ratQuotient_any a2 ad n2 c2 md cd ys (limbs G) W ((h2.below hbd).below hb) (sd.below hb) oy (limbs_rep _).ok m2 mg nzG; rw [(limbs_rep _).val] at K; exact K:Calls Tryz.prog 86 #[.slice a2 n2 c2,.slice ad md cd] W fun e w' => OldN W w' a2 n2 c2 (val ys / G) e))
   have HBd:=Hd hbd
   clear KO KB HKD h1 h2 hBy hT sd nd bd hbd
   go_wp2_with fail
   refine (Uh HKO).mono ?_
   rintro _ _ ⟨rfl,hw⟩
   obtain rfl:=hw.symm
   clear hw HKO
   go_wp2_with fail
   refine (Uh HKB).mono ?_
   rintro _ we ⟨ae,ne,ce,es,as_,ms,cs,rfl,hWe,hne,ss,hbe⟩
   have HK2:=Hd (Uh HQ we hbe)
   have H:=Hd (And.intro hWe (And.intro hne hbe))
   clear hWe hne ss hbe HKB HQ
   go_wp2_with fail
   refine (Uh HK2).mono ?_
   rintro _ wf ⟨af,mf,cf,rfl,sf,of,bf⟩
   have H2:=Hd (And.intro sf bf)
   clear sf of bf HK2
   go_wp2_with fail
   go_ret2
   exact ⟨ae,ne,ce,es,af,mf,cf,rfl,(Uh H).1.below (Uh H2).2,(Uh H).2.1,(Uh H2).1,(Uh HBd).trans (((Uh H).2.2.trans ((Uh H2).2.mono (Uh H).2.2.size)).mono (Uh HBd).size)⟩
def NdPost (w w':World) (q r:Nat) (e:Ending):Prop:=∃ a m c a' m' c',e = .returned (.tuple #[.slice a m c,.slice a' m' c']) ∧ Sl w' a m c (limbs q) ∧ NewAt w.heap.size a ∧ Sl w' a' m' c' (limbs r) ∧ NewAt w.heap.size a' ∧ Below w.heap.size w w'

theorem dig_old {w wb:World} {p:Pc} (hp:Sl w p.a p.n p.c p.xs) (op:Ok p.xs) (np:Norm p.xs) (lp:p.n ≤ dLimbs) (hb:Below w.heap.size w wb) {g:Nat} (hg:w.heap.size ≤ g):Dig wb g p :=
 ⟨hp.below hb,op,np,lp,fun hne x hx hxb => by
  obtain ⟨b,off,e,hc⟩:=hp.cells.resolve_left hne
  rw [e] at hx
  cases hx
  have h0:0 < p.xs.length:=List.length_pos_iff.2 hne
  have h3:b < w.heap.size:=World.block_lt_of_cell? _ _ (hc 0 h0)
  have h2:b = g:=hxb
  omega⟩
theorem dig_spread {w wa wb : World} {a0 : Option Addr} {n0 c0 : Nat} {xs : List Nat} (h0 : Sl w a0 n0 c0 xs) {a : Option Addr} {n c : Nat} {ps : List Pc} (hW : Wide wb a n c (val xs) ps) (hf : WdFrom a0 ps) {g : Nat} (hg : w.heap.size ≤ g) : ∀ p ∈ ps, Dig wb g p := fun p hp =>
  ⟨(hW.sl.each p hp).1, (hW.sl.each p hp).2, hW.norm p hp, hW.len p hp, fun hne x hx hxb => by
    obtain ⟨y, hy, hxy⟩ := hf p hp x hx
    have hx0 : xs ≠ [] := by
      intro e
      have hl := hW.sl.len
      have hpos : 0 < n := by rw [← hl]; exact List.length_pos_iff.2 (fun e2 => by rw [e2] at hp; cases hp)
      have h1 := wide_ge hW hpos
      rw [e] at h1
      have h2 : 0 < wD ^ (n - 1) := Nat.pow_pos wD_pos
      have h3 : val ([] : List Nat) = 0 := rfl
      omega
    obtain ⟨b, off, e, hc⟩ := h0.cells.resolve_left hx0
    rw [hy] at e
    cases e
    have h1 : 0 < xs.length := List.length_pos_iff.2 hx0
    have h3 : b < w.heap.size := World.block_lt_of_cell? _ _ (hc 0 h1)
    have h2 : x.block = b := hxy
    omega⟩
theorem nd_row {w wb w2:World} {p:Pc} {ps:List Pc} {v':Value} {g0:Nat} (hb:Below w.heap.size w wb) (hps:∀ g,w.heap.size ≤ g → ∀ q ∈ p :: ps,Dig wb g q) (hown:w2.ownsRow w.heap.size 23 1 v' (1 + ps.length) ([slV p] ++ ps.map slV)) (hg0:w.heap.size ≤ g0) (hg:wb.grownBy w2 (some g0)):∃ g cap,v' = .slice (some ⟨g,0,none⟩) (1 + ps.length) cap ∧ RowD w w2 g cap (p :: ps):=by
 have hl:(p :: ps).length = 1 + ps.length:=by rw [List.length_cons]; omega
 have hm:(p :: ps).map slV = [slV p] ++ ps.map slV:=rfl
 rcases hown with ⟨e0,⟨_,e1⟩ | ⟨g,cap,cur,e,q1,q2,q3⟩⟩
 ·omega
 ·refine ⟨g,cap,e,⟨?_,fun q hq => ?_,?_,(Array.getElem?_eq_some_iff.1 q2).1,q1⟩⟩
  ·rw [hl,hm]
   exact ⟨e0,.inr ⟨g,cap,cur,rfl,q1,q2,q3⟩⟩
  ·have h1:=(hps g0 hg0 q hq).grown hg
   exact ⟨h1.sl,h1.ok,h1.norm,h1.len,(hps g q1 q hq).off⟩
  ·have hc:=chg_grownR hg
   exact ⟨hc.os.trans hb.os,hc.tape.trans hb.tape,hc.output.trans hb.output,Nat.le_trans hb.size hc.size,fun k hk => by
    rw [hc.block k (Nat.lt_of_lt_of_le hk hb.size) (by omega)]
    exact hb.block k hk⟩
theorem nd_one {w wa:World} {v:Value} (h:w.alloc (.cells #[v] 23) = wa) (hv:v.oneCell' = true):wa.ownsRow w.heap.size 23 1 (.slice (some ⟨w.heap.size,0,none⟩) 1 1) 1 [v]:=by
 refine ⟨rfl,.inr ⟨w.heap.size,1,#[v],rfl,Nat.le_refl _,?_,Nat.le_refl _,by decide,rfl,rfl⟩⟩
 rw [← h]
 exact alloc_block _ _
theorem wv_cons (p:Pc) (ps:List Pc):wv (p :: ps) = val p.xs + wD * wv ps:=rfl
theorem nd_lt {r d x:Nat} (hr:r < d) (hx:x < wD):x + wD * r < wD * d:=by
 have h:wD * (r + 1) ≤ wD * d:=Nat.mul_le_mul_left _ hr
 rw [Nat.mul_add] at h
 omega
theorem nd_split {ys:List Nat} (m:MayL ys = true) (hl:1024 < ys.length):val ys = val (ys.take 1024) + wD * val (ys.drop 1024) ∧ ys.drop 1024 ≠ [] ∧ MayL (ys.drop 1024) = true:=by
 have h:=MayL.len m
 have hld:(ys.drop 1024).length = ys.length - 1024:=by rw [List.length_drop]
 have hdn:ys.drop 1024 ≠ []:=by intro e; rw [e] at hld; simp at hld; omega
 refine ⟨?_,hdn,MayL.mk ?_ (by omega)⟩
 ·have e:=val_split ys dLimbs (by rw [dL_eq]; omega)
  rw [← wD_def] at e
  exact e
 ·right
  rw [hld,getD_dropR,show 1024 + (ys.length - 1024 - 1) = ys.length - 1 from by omega]
  rcases MayL.norm m with e | e
  ·rw [e] at hl; simp at hl
  ·exact e
set_option maxHeartbeats 8000000 in
set_option maxRecDepth 100000 in
theorem nextDigit_short (ar an ad:Option Addr) (nr cr nn cn nd cd:Nat) (rs xs ys:List Nat) (w:World) (hr:Sl w ar nr cr rs) (hx:Sl w an nn cn xs) (hd:Sl w ad nd cd ys) (or_:Ok rs) (ox:Ok xs) (oy:Ok ys) (kr:MayL rs = true) (nx:Norm xs) (lx:nn ≤ dLimbs) (ky:MayL ys = true) (ey:ys ≠ []) (hlt:val rs < val ys) (hl:nd ≤ 1024) :
  Calls Tryz.prog 138 #[.slice ar nr cr,.slice an nn cn,.slice ad nd cd] w fun e w' => NdPost w w' ((val xs + wD * val rs) / val ys) ((val xs + wD * val rs) % val ys) e:=by
 obtain ⟨i24,hi,hz,hs,hb⟩:=info_parts Tryz.info_nat
 have HInf:=Hd (And.intro hi (And.intro hz (And.intro hs hb)))
 clear hi hz hs hb
 have vx:val xs < wD:=by
  have h1:=val_lt ox
  have h2:=hx.len
  have h3:4294967296 ^ xs.length ≤ 4294967296 ^ dLimbs:=pow_mono (by omega)
  rw [← wD_def] at h3
  omega
 have vy:val ys < wD:=by
  have h1:=val_lt oy
  have h2:=hd.len
  have e:=dL_eq
  have h3:4294967296 ^ ys.length ≤ 4294967296 ^ dLimbs:=pow_mono (by omega)
  rw [← wD_def] at h3
  omega
 have hV:=nd_lt hlt vx
 obtain ⟨V,hVV⟩:∃ V,val xs + wD * val rs = V:=⟨_,rfl⟩
 rw [hVV] at hV ⊢
 have hV2:V < wD * wD:=Nat.lt_of_lt_of_le hV (Nat.mul_le_mul_left _ (Nat.le_of_lt vy))
 have hfit:fitL V = (limbs V,0):=fitL_ok (by have:=len_two hV2; omega)
 have mV:MayL (limbs V) = true:=may_limbs hV2
 obtain ⟨wa,hwa⟩:∃ x,w.alloc (.cells #[.slice an nn cn] 23) = x:=⟨_,rfl⟩
 have hba:Below w.heap.size w wa:=by rw [← hwa]; exact bAl
 have hown0:=nd_one hwa rfl
 have KS:=Hd (spread_any ar nr cr rs wa (hr.below hba) or_ kr)
 have H:=Hd (And.intro hr (And.intro hx (And.intro hd (And.intro hba (And.intro hown0 hVV)))))
 have HF:=Hd (And.intro hfit mV)
 have hl':(nd:Int) ≤ 1024:=by omega
 have HN:=Hd (And.intro nx lx)
 have HE:=Hd (And.intro ky ey)
 clear hr hx hd hba hown0 hVV vx vy hV hV2 hfit mV nx lx kr ky ey hlt
 go_enter Tryz.func138,Tryz.ntmps138
 go_wp2_with fail
 refine (Uh KS).mono ?_
 rintro _ wb ⟨ab,nb,cb,bs,rfl,hWb,hnb,hbb,hfb,_,hnn⟩
 obtain ⟨xa,rfl⟩:∃ x,ab = some x:=by cases ab with | none => exact absurd rfl hnn | some x => exact ⟨x,rfl⟩
 obtain ⟨hr,hx,hd,hba,hown0,hVV⟩:=Uh H
 have hbw:=hba.trans (hbb.mono hba.size)
 have hown1:=own_belR hown0 hbb
 have hDg:∀ g,w.heap.size ≤ g → ∀ q ∈ (⟨an,nn,cn,xs⟩:Pc) :: bs,Dig wb g q:=fun g hg q hq => by
  rcases List.mem_cons.1 hq with e | e
  ·subst e
   exact dig_old hx ox (Uh HN).1 (Uh HN).2 hbw hg
  ·exact dig_spread (wa:=wa) hr hWb hfb hg q e
 have hbl:bs.length = nb:=hWb.sl.len
 have hnews:∀ j u,(bs.map slV)[j]? = some u → wb.cell? (xa.add j) = some u:=by
  intro j u hj
  rw [List.getElem?_map] at hj
  cases hp:bs[j]? with
  | none => rw [hp] at hj; cases hj
  | some p =>
   rw [hp] at hj
   cases hj
   rcases hWb.sl.cells with e | ⟨b,off,e,hc⟩
   ·rw [e] at hp; cases hp
   ·cases e
    have hcj:=hc j p hp
    unfold slV
    by_cases j0:j = 0
    ·subst j0; simpa [Addr.add] using hcj
    ·simpa [Addr.add,j0] using hcj
 have hnl:(bs.map slV).length = nb * 1:=by rw [List.length_map,Nat.mul_one]; exact hbl
 have HA:=Hd (And.intro hown1 (And.intro hnl (And.intro hnews (And.intro hbw.size hDg))))
 have HB:=Hd (And.intro hbw (And.intro (show wv ((⟨an,nn,cn,xs⟩:Pc) :: bs) = V by rw [wv_cons,hWb.val]; exact hVV) hbl))
 clear hr hx hd hba hown0 hVV hbw hown1 hDg hbl hnews hnl hWb hbb hfb hnn KS
 go_wp2_with (at_builtin; refine wpList_append_own _ rfl _ _ 114 rfl w.heap.size 23 i24 (.slice none 0 0) 1 24 Tryz.underlying114 (Uh HInf).1 (Uh HInf).2.1 (Uh HInf).2.2.1 (Uh HInf).2.2.2 rfl (by decide) _ 1 [.slice an nn cn] rfl (Uh HA).1 xa nb cb (bs.map slV) rfl (Uh HA).2.1 (Uh HA).2.2.1 ?c2 ?c3 ?c4 (Uh HA).2.2.2.1 ?_)
 case c2 =>
  intro u hu
  obtain ⟨p,_,rfl⟩:=List.mem_map.1 hu
  rfl
 case c3 => unfold maxLen; omega
 case c4 => omega
 intro v' w2 hown2 hg2 _
 have hbl:=(Uh HB).2.2
 obtain ⟨g,cap,rfl,hRow⟩:=nd_row (p:=⟨an,nn,cn,xs⟩) (ps:=bs) (g0:=w.heap.size) (Uh HB).1 (Uh HA).2.2.2.2 (by rw [hbl]; exact hown2) (Nat.le_refl _) hg2
 have hsl:=hRow.sl
 rw [List.length_cons,hbl] at hsl
 rw [hbl]
 have KT:=wtrim_any (some ⟨g,0,none⟩) (nb + 1) cap _ w2 hsl (by omega)
 rw [Nat.add_comm nb 1] at KT
 have HKT:=Hd KT
 have HR:=Hd hRow
 clear hown2 hg2 hbl hRow hsl KT hwa HA
 go_wp2_with fail
 refine (Uh HKT).mono ?_
 rintro _ _ ⟨m,qz,rfl,sz,tz,hw⟩
 obtain rfl:=hw.symm
 have hWd:=pl_end (N:=0) (Uh HR) tz sz
 rw [(Uh HB).2.1] at hWd
 have hmle:=tz.le
 rw [List.length_cons,(Uh HB).2.2] at hmle
 have KN:=narrow_any (some ⟨g,0,none⟩) m cap V qz w2 hWd
 rw [(Uh HF).1] at KN
 have HKN:=Hd KN
 have hbe:=(Uh HR).bel
 have HD:=Hd (And.intro ((Uh H).2.2.1.below hbe) hbe)
 clear hw sz tz hWd hmle KN hbe HR HKT HB H
 go_wp2_with fail
 refine (Uh HKN).mono ?_
 rintro _ w3 ⟨a3,m3,c3,rfl,s3,n3,b3⟩
 have KD:=ndivmod_any a3 ad m3 c3 nd cd (limbs V) ys w3 s3 ((Uh HD).1.below b3) (limbs_rep V).ok oy
 have hdv:divL (limbs V) ys = (limbs (V / val ys),limbs (V % val ys),0):=by
  unfold divL
  rw [(Uh HF).2,(Uh HE).1,(limbs_rep V).val]
  simp [(Uh HE).2]
 rw [hdv] at KD
 have HKD:=Hd KD
 have HB3:=Hd ((Uh HD).2.trans (b3.mono (Uh HD).2.size))
 clear s3 n3 b3 KD hdv HKN HD
 go_wp2_with fail
 refine (sure_any _ _ _).mono ?_
 rintro _ _ ⟨rfl,hw⟩
 obtain rfl:=hw.symm
 clear hw
 go_wp2_with fail
 refine (Uh HKD).mono ?_
 rintro _ w4 ⟨aq,mq,cq,ar4,mr4,cr4,rfl,sq,nq,sr4,nr4,_,b4⟩
 have HFin:=Hd (And.intro sq (And.intro nq (And.intro sr4 (And.intro nr4 b4))))
 clear sq nq sr4 nr4 b4 HKD
 go_wp2_with fail
 go_ret2
 exact ⟨aq,mq,cq,ar4,mr4,cr4,rfl,(Uh HFin).1,(fun x hx => Nat.le_trans (Uh HB3).size ((Uh HFin).2.1 x hx)),(Uh HFin).2.2.1,(fun x hx => Nat.le_trans (Uh HB3).size ((Uh HFin).2.2.2.1 x hx)),(Uh HB3).trans ((Uh HFin).2.2.2.2.mono (Uh HB3).size)⟩
end Go.Proofs.YtlolnaegfponeaaGreatDoor
