/- Wi3 -/
import Derived.Test.YtmnlhnmlgncedaaGreatDoorWi2
import Derived.Test.YtmnlhnmlgncedaaGreatDoorShl
import Derived.Test.YtmnlhnmlgncedaaGreatDoorMul
import Derived.Test.YtmnlhnmlgncedaaGreatDoorFo4
namespace Go.Proofs.YtmnlhnmlgncedaaGreatDoor
open Go.RowKit Go.Deep
set_option linter.unusedVariables false
def sF (D:Nat) (f:Nat → Nat):Nat → Nat
 | 0 => 0
 | n + 1 => sF D f n + D ^ n * f n

theorem sF_lt {D:Nat} (hD:0 < D) {f:Nat → Nat}:∀ {n:Nat},(∀ i,i < n → f i < D) → sF D f n < D ^ n
 | 0,_ => by simp [sF]
 | n + 1,h => by
  have h1:=sF_lt hD (n:=n) (fun i hi => h i (by omega))
  have h2:=h n (by omega)
  simp only [sF,Nat.pow_succ]
  have h3:D ^ n * f n + D ^ n ≤ D ^ n * D:=by
   rw [← Nat.mul_succ]
   exact Nat.mul_le_mul_left _ h2
  omega
theorem sF_rest {D:Nat} {f g:Nat → Nat} {i:Nat}:∀ {n:Nat},i ≤ n → (∀ j,i ≤ j → j < n → f j = g j) → ∃ R,sF D f n = sF D f i + R ∧ sF D g n = sF D g i + R
 | n,hi,h => by
  induction n with
  | zero =>
   obtain rfl:i = 0:=by omega
   exact ⟨0,rfl,rfl⟩
  | succ n ih =>
   by_cases e:i = n + 1
   ·subst e; exact ⟨0,rfl,rfl⟩
   ·obtain ⟨R,h1,h2⟩:=ih (by omega) (fun j hj hn => h j hj (by omega))
    refine ⟨R + D ^ n * f n,?_,?_⟩
    ·simp only [sF]; omega
    ·simp only [sF]; rw [← h n (by omega) (by omega)]; omega
theorem sF_less {D:Nat} (hD:0 < D) {f g:Nat → Nat} {i n:Nat} (hi:i < n) (hf:∀ j,j < n → f j < D) (h:∀ j,i + 1 ≤ j → j < n → f j = g j) (hl:f i < g i):sF D f n < sF D g n:=by
 obtain ⟨R,h1,h2⟩:=sF_rest (D:=D) (i:=i + 1) (n:=n) hi h
 have h3:=sF_lt hD (n:=i) (fun j hj => hf j (by omega))
 rw [h1,h2]
 simp only [sF]
 have h4:D ^ i * f i + D ^ i ≤ D ^ i * g i:=by
  rw [← Nat.mul_succ]
  exact Nat.mul_le_mul_left _ hl
 omega
theorem sF_same {D:Nat} {f g:Nat → Nat}:∀ {n:Nat},(∀ j,j < n → f j = g j) → sF D f n = sF D g n
 | 0,_ => rfl
 | n + 1,h => by simp only [sF]; rw [sF_same (fun j hj => h j (by omega)),h n (by omega)]
theorem sF_shift {D:Nat} {f:Nat → Nat}:∀ {n:Nat},sF D f (n + 1) = f 0 + D * sF D (fun i => f (i + 1)) n
 | 0 => by simp [sF]
 | n + 1 => by
  have ih:=sF_shift (D:=D) (f:=f) (n:=n)
  show sF D f (n + 1) + D ^ (n + 1) * f (n + 1) = f 0 + D * (sF D (fun i => f (i + 1)) n + D ^ n * f (n + 1))
  rw [ih,Nat.mul_add,Nat.pow_succ,Nat.mul_comm (D ^ n) D,Nat.mul_assoc]
  omega

theorem wv_sF:∀ (ps:List Pc) (n:Nat),ps.length ≤ n → wv ps = sF wD (fun i => val (dgP ps i).xs) n
 | [],n,_ => by
  have:∀ k,sF wD (fun i => val (dgP [] i).xs) k = 0:=by
   intro k
   induction k with
   | zero => rfl
   | succ k ih => simp only [sF]; rw [ih]; simp [dgP,pcNil,val]
  rw [this]; rfl
 | p :: ps,0,h => by simp at h
 | p :: ps,n + 1,h => by
  rw [sF_shift]
  simp only [wv]
  have:=wv_sF ps n (by simpa using h)
  rw [this]
  rfl

theorem wide_dg {w:World} {a:Option Addr} {n c v:Nat} {ps:List Pc} (h:Wide w a n c v ps) (i:Nat):Sl w (dgP ps i).a (dgP ps i).n (dgP ps i).c (dgP ps i).xs ∧ Ok (dgP ps i).xs ∧ Norm (dgP ps i).xs ∧ (dgP ps i).n ≤ dLimbs ∧ val (dgP ps i).xs < wD:=by
 unfold dgP
 cases hp:ps[i]? with
 | none => exact ⟨sl_nil _,Ok.nil,.inl rfl,Nat.zero_le _,by show (0:Nat) < wD; exact wD_pos⟩
 | some p =>
  have hm:=List.mem_of_getElem? hp
  have hs:=h.sl.each p hm
  have hn:=h.len p hm
  refine ⟨hs.1,hs.2,h.norm p hm,hn,?_⟩
  simp only [Option.getD_some]
  have h1:=val_lt hs.2
  rw [hs.1.len] at h1
  exact Nat.lt_of_lt_of_le h1 (pow_mono hn)
theorem dL_may {xs:List Nat} {n:Nat} (hl:xs.length = n) (nx:Norm xs) (hn:n ≤ dLimbs):MayL xs = true:=MayL.mk nx (by have:dLimbs = 1024:=rfl; omega)

set_option maxHeartbeats 8000000 in
theorem compareWide_any (a1 a2:Option Addr) (n1 c1 n2 c2 v1 v2:Nat) (ps qs:List Pc) (w:World) (h1:Wide w a1 n1 c1 v1 ps) (h2:Wide w a2 n2 c2 v2 qs) (hn1:n1 ≤ 1000000) (hn2:n2 ≤ 1000000) :
  Calls Tryz.prog 137 #[.slice a1 n1 c1,.slice a2 n2 c2] w fun e w' => e = .returned (.int .i64 (cmpN v1 v2)) ∧ Below w.heap.size w w':=by
 by_cases hlt:n1 < n2
 ·have hlt':(n1:Int) < (n2:Int):=by omega
  have e1:v1 = sF wD (fun i => val (dgP ps i).xs) n2:=by rw [← h1.val]; exact wv_sF ps n2 (by rw [h1.sl.len]; omega)
  have e2:v2 = sF wD (fun i => val (dgP qs i).xs) n2:=by rw [← h2.val]; exact wv_sF qs n2 (by rw [h2.sl.len]; omega)
  have H1:=Hj h1
  have H2:=Hj h2
  have HE:=Hj (And.intro e1 e2)
  clear h1 h2 e1 e2
  go_enter Tryz.func137,Tryz.ntmps137
  go_wp2_with fail
  go_loopw [5] (fun iv wr => ∃ k:Nat,k ≤ n2 ∧ iv = .int .i64 ((k:Int) - 1) ∧ Hid (∀ j,k ≤ j → j < n2 → val (dgP ps j).xs = val (dgP qs j).xs) ∧ Below w.heap.size w wr) (fun iv _ => (intOf iv + 1).toNat)
  case atStart => exact ⟨n2,Nat.le_refl _,rfl,(fun j h1 h2 => by omega),Below.refl _ _⟩
  case round =>
   obtain ⟨k,hk,rfl,HA,hB⟩:=hrel
   rcases k with _ | k
   ·have t1:¬ (0:Int) ≤ ((0:Nat):Int) - 1:=by omega
    have HR:=Hj (show cmpN v1 v2 = 0 from by
     have h:=sF_same (D:=wD) (fun j hj => Uh HA j (Nat.zero_le _) hj)
     rw [(Uh HE).1,(Uh HE).2]
     exact cmpN_eq h)
    have HB:=Hj hB
    clear HA hB
    go_wp2_with fail
    go_ret
    rw [Uh HR]
    exact ⟨rfl,Uh HB⟩
   ·have t0:((k + 1:Nat):Int) - 1 = (k:Int):=by omega
    rw [t0]
    have t1:(0:Int) ≤ (k:Int):=by omega
    have W1:=(Uh H1).below hB
    have W2:=(Uh H2).below hB
    have K1:=Hj (wdigit_any a1 n1 c1 ps wr W1.sl k)
    have K2:=Hj (wdigit_any a2 n2 c2 qs wr W2.sl k)
    obtain ⟨s1,o1,m1,l1,d1⟩:=wide_dg W1 k
    obtain ⟨s2,o2,m2,l2,d2⟩:=wide_dg W2 k
    have KC:=ncmp_any _ _ _ _ _ _ _ _ wr s1 s2 o1 o2
    rw [show cmpL (dgP ps k).xs (dgP qs k).xs = cmpN (val (dgP ps k).xs) (val (dgP qs k).xs) from by unfold cmpL; rw [dL_may s1.len m1 l1,dL_may s2.len m2 l2]; rfl] at KC
    have hdig:∀ j,val (dgP ps j).xs < wD:=fun j => (wide_dg W1 j).2.2.2.2
    have hdig2:∀ j,val (dgP qs j).xs < wD:=fun j => (wide_dg W2 j).2.2.2.2
    have hres:val (dgP ps k).xs ≠ val (dgP qs k).xs → cmpN v1 v2 = cmpN (val (dgP ps k).xs) (val (dgP qs k).xs):=fun hne => by
     rcases Nat.lt_trichotomy (val (dgP ps k).xs) (val (dgP qs k).xs) with h | h | h
     ·rw [cmpN_lt h]
      refine cmpN_lt ?_
      rw [(Uh HE).1,(Uh HE).2]
      exact sF_less wD_pos (i:=k) (by omega) (fun j _ => hdig j) (fun j h1 h2 => Uh HA j h1 h2) h
     ·exact absurd h hne
     ·rw [cmpN_gt h]
      refine cmpN_gt ?_
      rw [(Uh HE).1,(Uh HE).2]
      exact sF_less wD_pos (i:=k) (by omega) (fun j _ => hdig2 j) (fun j h1 h2 => (Uh HA j h1 h2).symm) h
    have HRes:=Hj hres
    have KC':=Hj KC
    have HB:=Hj hB
    clear KC hres W1 W2 s1 o1 m1 l1 d1 s2 o2 m2 l2 d2 hdig hdig2 hB
    by_cases heq:val (dgP ps k).xs = val (dgP qs k).xs
    ·have hz:=cmpN_eq heq
     have HA2:=Hj (show ∀ j,k ≤ j → j < n2 → val (dgP ps j).xs = val (dgP qs j).xs from fun j h1 h2 => by
      by_cases e:j = k
      ·rw [e]; exact heq
      ·exact Uh HA j (by omega) h2)
     rw [hz] at KC'
     clear hz heq HA HRes
     generalize dgP ps k = P at *
     generalize dgP qs k = Q at *
     go_wp2_with fail
     refine (Uh K1).mono ?_
     rintro _ _ ⟨rfl,hw⟩
     obtain rfl:=hw.symm
     clear hw
     go_wp2_with fail
     refine (Uh K2).mono ?_
     rintro _ _ ⟨rfl,hw⟩
     obtain rfl:=hw.symm
     clear hw
     go_wp2_with fail
     refine (Uh KC').mono ?_
     rintro _ w3 ⟨rfl,kk,hw⟩
     have HB3:=Hj (show Below w.heap.size w w3 from by rw [hw]; exact bel_drewN (Uh HB) kk)
     clear hw HB K1 K2 KC'
     go_wp2_with fail
     exact ⟨⟨k,by omega,by go_num,Uh HA2,Uh HB3⟩,by show ((k:Int) - 1 + 1).toNat < ((k:Int) + 1).toNat; omega⟩
    ·have hne0:cmpN (val (dgP ps k).xs) (val (dgP qs k).xs) ≠ 0:=by
      rcases Nat.lt_trichotomy (val (dgP ps k).xs) (val (dgP qs k).xs) with h | h | h
      ·rw [cmpN_lt h]; decide
      ·exact absurd h heq
      ·rw [cmpN_gt h]; decide
     have HV:=Hj (Uh HRes heq)
     clear HRes HA heq
     generalize cmpN (val (dgP ps k).xs) (val (dgP qs k).xs) = cc at *
     have u1:(cc == 0) = false:=by simpa using hne0
     have u2:(cc != 0) = true:=by simpa using hne0
     generalize dgP ps k = P at *
     generalize dgP qs k = Q at *
     go_wp2_with fail
     refine (Uh K1).mono ?_
     rintro _ _ ⟨rfl,hw⟩
     obtain rfl:=hw.symm
     clear hw
     go_wp2_with fail
     refine (Uh K2).mono ?_
     rintro _ _ ⟨rfl,hw⟩
     obtain rfl:=hw.symm
     clear hw
     go_wp2_with fail
     refine (Uh KC').mono ?_
     rintro _ w3 ⟨rfl,kk,hw⟩
     have HB3:=Hj (show Below w.heap.size w w3 from by rw [hw]; exact bel_drewN (Uh HB) kk)
     clear hw HB K1 K2 KC'
     go_wp2_with fail
     go_ret
     rw [Uh HV]
     exact ⟨rfl,Uh HB3⟩
 ·have hlt':¬ (n1:Int) < (n2:Int):=by omega
  have e1:v1 = sF wD (fun i => val (dgP ps i).xs) n1:=by rw [← h1.val]; exact wv_sF ps n1 (by rw [h1.sl.len]; omega)
  have e2:v2 = sF wD (fun i => val (dgP qs i).xs) n1:=by rw [← h2.val]; exact wv_sF qs n1 (by rw [h2.sl.len]; omega)
  have H1:=Hj h1
  have H2:=Hj h2
  have HE:=Hj (And.intro e1 e2)
  clear h1 h2 e1 e2
  go_enter Tryz.func137,Tryz.ntmps137
  go_wp2_with fail
  go_loopw [5] (fun iv wr => ∃ k:Nat,k ≤ n1 ∧ iv = .int .i64 ((k:Int) - 1) ∧ Hid (∀ j,k ≤ j → j < n1 → val (dgP ps j).xs = val (dgP qs j).xs) ∧ Below w.heap.size w wr) (fun iv _ => (intOf iv + 1).toNat)
  case atStart => exact ⟨n1,Nat.le_refl _,rfl,(fun j h1 h2 => by omega),Below.refl _ _⟩
  case round =>
   obtain ⟨k,hk,rfl,HA,hB⟩:=hrel
   rcases k with _ | k
   ·have t1:¬ (0:Int) ≤ ((0:Nat):Int) - 1:=by omega
    have HR:=Hj (show cmpN v1 v2 = 0 from by
     have h:=sF_same (D:=wD) (fun j hj => Uh HA j (Nat.zero_le _) hj)
     rw [(Uh HE).1,(Uh HE).2]
     exact cmpN_eq h)
    have HB:=Hj hB
    clear HA hB
    go_wp2_with fail
    go_ret
    rw [Uh HR]
    exact ⟨rfl,Uh HB⟩
   ·have t0:((k + 1:Nat):Int) - 1 = (k:Int):=by omega
    rw [t0]
    have t1:(0:Int) ≤ (k:Int):=by omega
    have W1:=(Uh H1).below hB
    have W2:=(Uh H2).below hB
    have K1:=Hj (wdigit_any a1 n1 c1 ps wr W1.sl k)
    have K2:=Hj (wdigit_any a2 n2 c2 qs wr W2.sl k)
    obtain ⟨s1,o1,m1,l1,d1⟩:=wide_dg W1 k
    obtain ⟨s2,o2,m2,l2,d2⟩:=wide_dg W2 k
    have KC:=ncmp_any _ _ _ _ _ _ _ _ wr s1 s2 o1 o2
    rw [show cmpL (dgP ps k).xs (dgP qs k).xs = cmpN (val (dgP ps k).xs) (val (dgP qs k).xs) from by unfold cmpL; rw [dL_may s1.len m1 l1,dL_may s2.len m2 l2]; rfl] at KC
    have hdig:∀ j,val (dgP ps j).xs < wD:=fun j => (wide_dg W1 j).2.2.2.2
    have hdig2:∀ j,val (dgP qs j).xs < wD:=fun j => (wide_dg W2 j).2.2.2.2
    have hres:val (dgP ps k).xs ≠ val (dgP qs k).xs → cmpN v1 v2 = cmpN (val (dgP ps k).xs) (val (dgP qs k).xs):=fun hne => by
     rcases Nat.lt_trichotomy (val (dgP ps k).xs) (val (dgP qs k).xs) with h | h | h
     ·rw [cmpN_lt h]
      refine cmpN_lt ?_
      rw [(Uh HE).1,(Uh HE).2]
      exact sF_less wD_pos (i:=k) (by omega) (fun j _ => hdig j) (fun j h1 h2 => Uh HA j h1 h2) h
     ·exact absurd h hne
     ·rw [cmpN_gt h]
      refine cmpN_gt ?_
      rw [(Uh HE).1,(Uh HE).2]
      exact sF_less wD_pos (i:=k) (by omega) (fun j _ => hdig2 j) (fun j h1 h2 => (Uh HA j h1 h2).symm) h
    have HRes:=Hj hres
    have KC':=Hj KC
    have HB:=Hj hB
    clear KC hres W1 W2 s1 o1 m1 l1 d1 s2 o2 m2 l2 d2 hdig hdig2 hB
    by_cases heq:val (dgP ps k).xs = val (dgP qs k).xs
    ·have hz:=cmpN_eq heq
     have HA2:=Hj (show ∀ j,k ≤ j → j < n1 → val (dgP ps j).xs = val (dgP qs j).xs from fun j h1 h2 => by
      by_cases e:j = k
      ·rw [e]; exact heq
      ·exact Uh HA j (by omega) h2)
     rw [hz] at KC'
     clear hz heq HA HRes
     generalize dgP ps k = P at *
     generalize dgP qs k = Q at *
     go_wp2_with fail
     refine (Uh K1).mono ?_
     rintro _ _ ⟨rfl,hw⟩
     obtain rfl:=hw.symm
     clear hw
     go_wp2_with fail
     refine (Uh K2).mono ?_
     rintro _ _ ⟨rfl,hw⟩
     obtain rfl:=hw.symm
     clear hw
     go_wp2_with fail
     refine (Uh KC').mono ?_
     rintro _ w3 ⟨rfl,kk,hw⟩
     have HB3:=Hj (show Below w.heap.size w w3 from by rw [hw]; exact bel_drewN (Uh HB) kk)
     clear hw HB K1 K2 KC'
     go_wp2_with fail
     exact ⟨⟨k,by omega,by go_num,Uh HA2,Uh HB3⟩,by show ((k:Int) - 1 + 1).toNat < ((k:Int) + 1).toNat; omega⟩
    ·have hne0:cmpN (val (dgP ps k).xs) (val (dgP qs k).xs) ≠ 0:=by
      rcases Nat.lt_trichotomy (val (dgP ps k).xs) (val (dgP qs k).xs) with h | h | h
      ·rw [cmpN_lt h]; decide
      ·exact absurd h heq
      ·rw [cmpN_gt h]; decide
     have HV:=Hj (Uh HRes heq)
     clear HRes HA heq
     generalize cmpN (val (dgP ps k).xs) (val (dgP qs k).xs) = cc at *
     have u1:(cc == 0) = false:=by simpa using hne0
     have u2:(cc != 0) = true:=by simpa using hne0
     generalize dgP ps k = P at *
     generalize dgP qs k = Q at *
     go_wp2_with fail
     refine (Uh K1).mono ?_
     rintro _ _ ⟨rfl,hw⟩
     obtain rfl:=hw.symm
     clear hw
     go_wp2_with fail
     refine (Uh K2).mono ?_
     rintro _ _ ⟨rfl,hw⟩
     obtain rfl:=hw.symm
     clear hw
     go_wp2_with fail
     refine (Uh KC').mono ?_
     rintro _ w3 ⟨rfl,kk,hw⟩
     have HB3:=Hj (show Below w.heap.size w w3 from by rw [hw]; exact bel_drewN (Uh HB) kk)
     clear hw HB K1 K2 KC'
     go_wp2_with fail
     go_ret
     rw [Uh HV]
     exact ⟨rfl,Uh HB3⟩
theorem dL_eq:dLimbs = 1024:=rfl
theorem wD_def:wD = 4294967296 ^ dLimbs:=by unfold wD; exact Eq.refl _
theorem wD_two:(2:Nat) ^ (32768:Int).toNat = wD:=by
 unfold wD
 rw [pow_limb]
 exact congrArg (fun k => (2:Nat) ^ k) (rfl:(32768:Int).toNat = 32 * dLimbs)
theorem len_two {v:Nat} (h:v < wD * wD):(limbs v).length ≤ 2048:=by
 have h1:v < 4294967296 ^ (dLimbs + dLimbs):=by rw [Nat.pow_add,← wD_def]; exact h
 have:=rep_len_le (limbs_rep v) h1
 have e:=dL_eq
 omega
theorem len_big {v:Nat} (h:wD * wD ≤ v):2048 < (limbs v).length:=by
 rcases Nat.lt_or_ge 2048 (limbs v).length with k | k
 ·exact k
 ·exfalso
  have h1:=val_lt (limbs_rep v).ok
  rw [(limbs_rep v).val] at h1
  have e:=dL_eq
  have h2:4294967296 ^ (limbs v).length ≤ 4294967296 ^ (dLimbs + dLimbs):=pow_mono (by omega)
  rw [Nat.pow_add] at h2
  rw [← wD_def] at h2
  omega
theorem shl_wD {xs:List Nat} (m:MayL xs = true) (h:val xs < wD):shlL xs 32768 = (limbs (val xs * wD),0):=by
 unfold shlL
 rw [if_pos m,if_pos (by decide),wD_two]
 exact fitL_ok (by have:=len_two (Nat.mul_lt_mul_of_pos_right h wD_pos); omega)

theorem sF_ge {D:Nat} (hD:1 ≤ D) {f:Nat → Nat} {i n:Nat} (hi:i < n) (h:f i ≠ 0):D ^ i ≤ sF D f n:=by
 induction n with
 | zero => omega
 | succ n ih =>
  simp only [sF]
  by_cases e:i = n
  ·subst e
   have:D ^ i * 1 ≤ D ^ i * f i:=Nat.mul_le_mul_left _ (by omega)
   omega
  ·have:=ih (by omega)
   omega

set_option maxHeartbeats 8000000 in
theorem narrow_any (a:Option Addr) (n c v:Nat) (ps:List Pc) (w:World) (h:Wide w a n c v ps) :
  Calls Tryz.prog 88 #[.slice a n c] w fun e w' => Res2 w w' (fitL v) e:=by
 by_cases hn:n ≤ 2
 ·have hn':¬ (2:Int) < (n:Int):=by omega
  have K1:=Hj (wdigit_any a n c ps w h.sl 1)
  obtain ⟨s1,o1,m1,l1,d1⟩:=wide_dg h 1
  obtain ⟨s0,o0,m0,l0,d0⟩:=wide_dg h 0
  have y1:=dL_may s1.len m1 l1
  have y0:=dL_may s0.len m0 l0
  have hv:v = val (dgP ps 1).xs * wD + val (dgP ps 0).xs:=by
   have e:=wv_sF ps 2 (by rw [h.sl.len]; omega)
   rw [h.val] at e
   rw [e]
   simp only [sF,Nat.pow_zero,Nat.pow_one,Nat.one_mul,Nat.zero_add]
   rw [Nat.mul_comm wD]
   omega
  have KS:=nshl_any _ _ _ _ w 32768 s1 o1
  rw [shl_wD y1 d1] at KS
  have hm1:MayL (limbs (val (dgP ps 1).xs * wD)) = true:=MayL.mk (limbs_rep _).norm (len_two (Nat.mul_lt_mul_of_pos_right d1 wD_pos))
  have HA:=Hj (show addL (limbs (val (dgP ps 1).xs * wD)) (dgP ps 0).xs = fitL v from by
   unfold addL
   rw [hm1,y0,(limbs_rep _).val,← hv]
   rfl)
  have KS':=Hj KS
  have H:=Hj h
  have H0:=Hj (And.intro s0 o0)
  clear KS h s1 o1 m1 l1 d1 s0 o0 m0 l0 d0 y1 y0 hv hm1
  generalize hP:dgP ps 1 = P at *
  generalize val P.xs * wD = HI at *
  clear hP
  go_enter Tryz.func88,Tryz.ntmps88
  go_wp2_with fail
  refine (Uh K1).mono ?_
  rintro _ _ ⟨rfl,hw⟩
  obtain rfl:=hw.symm
  clear hw K1
  go_wp2_with fail
  refine (Uh KS').mono ?_
  rintro _ w1 ⟨ah,mh,ch,rfl,sh,nh,bh⟩
  have K0:=Hj (wdigit_any a n c ps w1 ((Uh H).below bh).sl 0)
  have KA:=nadd_any ah (dgP ps 0).a mh ch (dgP ps 0).n (dgP ps 0).c (limbs HI) (dgP ps 0).xs w1 sh ((Uh H0).1.below bh) (limbs_rep _).ok (Uh H0).2
  rw [Uh HA] at KA
  have KA':=Hj KA
  have HB:=Hj bh
  clear sh nh bh KA KS'
  generalize dgP ps 0 = Q at *
  go_wp2_with fail
  refine (sure_any _ _ _).mono ?_
  rintro _ _ ⟨rfl,hw⟩
  obtain rfl:=hw.symm
  clear hw
  go_wp2_with fail
  refine (Uh K0).mono ?_
  rintro _ _ ⟨rfl,hw⟩
  obtain rfl:=hw.symm
  clear hw K0
  go_wp2_with fail
  refine (Uh KA').mono ?_
  rintro _ w2 ⟨a2,m2,c2,rfl,s2,n2,b2⟩
  have H2:=Hj (And.intro s2 (And.intro n2 b2))
  clear s2 n2 b2 KA'
  go_wp2_with fail
  go_ret2
  exact ⟨a2,m2,c2,rfl,(Uh H2).1,fun x hx => Nat.le_trans (Uh HB).size ((Uh H2).2.1 x hx),(Uh HB).trans ((Uh H2).2.2.mono (Uh HB).size)⟩
 ·have hn':(2:Int) < (n:Int):=by omega
  have hbig:fitL v = ([],2):=by
   refine fitL_big (len_big ?_)
   have hl:=h.sl.len
   rcases h.top with e | ⟨p,hp,hx⟩
   ·rw [e] at hl; simp at hl; omega
   ·have hlast:ps[n - 1]? = some p:=by rw [List.getLast?_eq_getElem?,hl] at hp; exact hp
    have hmem:=List.mem_of_getElem? hlast
    have hge:=val_ge_of_norm (h.norm p hmem) hx
    have hpos:=pow_pos (p.xs.length - 1)
    have hd:(fun i => val (dgP ps i).xs) (n - 1) ≠ 0:=by
     simp only [dgP,hlast,Option.getD_some]
     omega
    have e:=wv_sF ps n (by rw [hl]; exact Nat.le_refl _)
    rw [h.val] at e
    rw [e]
    have h1:=sF_ge (D:=wD) wD_pos (f:=fun i => val (dgP ps i).xs) (i:=n - 1) (n:=n) (by omega) hd
    have h2:wD ^ 2 ≤ wD ^ (n - 1):=Nat.pow_le_pow_right wD_pos (by omega)
    rw [Nat.pow_two] at h2
    omega
  have HF:=Hj hbig
  clear h hbig
  go_enter Tryz.func88,Tryz.ntmps88
  go_wp2_with fail
  go_ret2
  rw [Uh HF]
  exact ⟨none,0,0,rfl,sl_nil _,newAt_nil _,Below.refl _ _⟩
theorem wv_app (l:List Pc) (p:Pc):wv (l ++ [p]) = wv l + wD ^ l.length * val p.xs:=by
 induction l with
 | nil => simp [wv]
 | cons q l ih =>
  simp only [List.cons_append,wv,ih,List.length_cons,Nat.pow_succ,Nat.mul_add]
  rw [Nat.add_assoc,Nat.mul_comm (wD ^ l.length) wD,Nat.mul_assoc]
theorem wv_zero:∀ (l:List Pc),(∀ p ∈ l,p.xs = []) → wv l = 0
 | [],_ => rfl
 | p :: l,h => by
  simp only [wv]
  rw [h p (by simp),wv_zero l (fun q hq => h q (by simp [hq])),Nat.mul_zero]
  rfl
theorem wv_append (l m:List Pc):wv (l ++ m) = wv l + wD ^ l.length * wv m:=by
 induction l with
 | nil => simp [wv]
 | cons q l ih =>
  simp only [List.cons_append,wv,ih,List.length_cons,Nat.pow_succ,Nat.mul_add]
  rw [Nat.add_assoc,Nat.mul_comm (wD ^ l.length) wD,Nat.mul_assoc]
theorem Trimmed.wv {ps qs:List Pc} {m:Nat} (h:Trimmed ps qs m):wv qs = Go.Proofs.YtmnlhnmlgncedaaGreatDoor.wv ps:=by
 have e:ps = ps.take m ++ ps.drop m:=(List.take_append_drop m ps).symm
 rw [h.eq]
 conv => rhs; rw [e]
 rw [wv_append,wv_zero (ps.drop m) (fun p hp => ?_),Nat.mul_zero,Nat.add_zero]
 obtain ⟨i,hi⟩:=List.mem_iff_getElem?.1 hp
 rw [List.getElem?_drop] at hi
 exact h.zero (m + i) p (by omega) hi
def slV (p:Pc):Value:=.slice p.a p.n p.c
structure Dig (w:World) (g:Nat) (p:Pc):Prop where
 sl:Sl w p.a p.n p.c p.xs
 ok:Ok p.xs
 norm:Norm p.xs
 len:p.n ≤ dLimbs
 off:p.xs ≠ [] → ∀ x,p.a = some x → x.block ≠ g
theorem Dig.below {w w':World} {g:Nat} {p:Pc} (h:Dig w g p) (k:Below w.heap.size w w'):Dig w' g p:=⟨h.sl.below k,h.ok,h.norm,h.len,h.off⟩
theorem chg_grownR {w w':World} {g:Nat} (h:w.grownBy w' (some g)):Chg (fun k => k = g) w w' :=
 ⟨h.os,h.tape,h.output,h.size,fun k hk hs => h.block k hk (fun e => hs (by simpa using e))⟩
theorem Dig.grown {w w':World} {g:Nat} {p:Pc} (h:Dig w g p) (k:w.grownBy w' (some g)):Dig w' g p :=
 ⟨h.sl.chg (chg_grownR k) (fun x hx hn => h.off hn x hx),h.ok,h.norm,h.len,h.off⟩
theorem dig_nil (w:World) (g:Nat):Dig w g pcNil:=⟨⟨rfl,Nat.le_refl _,Nat.zero_le _,.inl rfl⟩,(fun x hx => by cases hx),(by simp [Norm,pcNil]),Nat.zero_le _,(fun _ x hx => by cases hx)⟩
structure RowD (w wr:World) (g cap:Nat) (acc:List Pc):Prop where
 own:wr.ownsRow w.heap.size 23 1 (.slice (some ⟨g,0,none⟩) acc.length cap) acc.length (acc.map slV)
 each:∀ p ∈ acc,Dig wr g p
 bel:Below w.heap.size w wr
 lt:g < wr.heap.size
 ge:w.heap.size ≤ g
theorem own_belR {w w2:World} {B:Nat} {e:TypeId} {sz:Nat} {v:Value} {n:Nat} {xs:List Value} (h:w.ownsRow B e sz v n xs) (hb:Below w.heap.size w w2):w2.ownsRow B e sz v n xs:=by
 rcases h with ⟨h1,h2 | ⟨g,cap,cur,e1,q1,q2,q3⟩⟩
 ·exact ⟨h1,.inl h2⟩
 ·refine ⟨h1,.inr ⟨g,cap,cur,e1,q1,?_,q3⟩⟩
  rw [hb.block g (Array.getElem?_eq_some_iff.1 q2).1]
  exact q2
theorem RowD.below {w wr w2:World} {g cap:Nat} {acc:List Pc} (h:RowD w wr g cap acc) (hb:Below wr.heap.size wr w2):RowD w w2 g cap acc :=
 ⟨own_belR h.own hb,fun p hp => (h.each p hp).below hb,h.bel.trans (hb.mono h.bel.size),Nat.lt_of_lt_of_le h.lt hb.size,h.ge⟩
theorem RowD.app {w wr w2:World} {g cap:Nat} {acc:List Pc} {p:Pc} {o:Obj} (h:RowD w wr g cap acc) (hp:Dig wr g p) (hown:w2.ownsRow w.heap.size 23 1 (.slice (some ⟨g,0,none⟩) (acc.length + 1) cap) (acc.length + 1) (acc.map slV ++ [slV p])) (hg:(wr.alloc o).grownBy w2 (some g)):RowD w w2 g cap (acc ++ [p]):=by
 have hal:=h.below ((Below.refl wr.heap.size wr).alloc (Nat.le_refl _) o)
 refine ⟨?_,fun q hq => ?_,?_,Nat.lt_of_lt_of_le hal.lt hg.size,h.ge⟩
 ·simpa using hown
 ·rcases List.mem_append.1 hq with c | c
  ·exact (hal.each q c).grown hg
  ·rw [List.mem_singleton.1 c]
   exact (hp.below ((Below.refl wr.heap.size wr).alloc (Nat.le_refl _) o)).grown hg
 ·have hc:=chg_grownR hg
  exact ⟨hc.os.trans hal.bel.os,hc.tape.trans hal.bel.tape,hc.output.trans hal.bel.output,Nat.le_trans hal.bel.size hc.size,fun k hk => by
   have hge:=h.ge
   rw [hc.block k (Nat.lt_of_lt_of_le hk hal.bel.size) (by omega)]
   exact hal.bel.block k hk⟩
theorem RowD.sl {w wr:World} {g cap:Nat} {acc:List Pc} (h:RowD w wr g cap acc):SlL wr (some ⟨g,0,none⟩) acc.length cap acc:=by
 rcases h.own.2 with ⟨e,_⟩ | ⟨g',cap',cur,e,q1,q2,q3,q4,q5,q6⟩
 ·cases e
 ·simp only [Value.slice.injEq,Option.some.injEq,Addr.mk.injEq,and_true,true_and] at e
  obtain ⟨rfl,rfl⟩:=e
  refine ⟨rfl,q3,.inr ⟨g,0,rfl,fun i p hp => ?_⟩,fun p hp => ⟨(h.each p hp).sl,(h.each p hp).ok⟩⟩
  have hi:i < acc.length:=(List.getElem?_eq_some_iff.1 hp).1
  have h2:(acc.map slV)[i]? = some (slV p):=by rw [List.getElem?_map,hp]; rfl
  rw [← q6,Nat.mul_one,List.getElem?_take_of_lt hi] at h2
  simp only [World.cell?,q2,Nat.zero_add]
  simpa [slV] using h2
theorem SlL.grownR {w w':World} {g:Nat} {a:Option Addr} {n c:Nat} {ps:List Pc} (h:SlL w a n c ps) (k:w.grownBy w' (some g)) (ha:∀ x,a = some x → x.block ≠ g) (hp:∀ p ∈ ps,∀ x,p.a = some x → x.block ≠ g):SlL w' a n c ps:=by
 refine ⟨h.len,h.le,?_,fun p hm => ⟨(h.each p hm).1.chg (chg_grownR k) (fun x hx _ => hp p hm x hx),(h.each p hm).2⟩⟩
 rcases h.cells with e | ⟨b,off,e,hc⟩
 ·exact .inl e
 ·exact .inr ⟨b,off,e,fun i p hi => (chg_grownR k).cell (ha _ e) (hc i p hi)⟩
theorem dg_from {a:Option Addr} {ps:List Pc} (h:WdFrom a ps) (i:Nat):∀ x,(dgP ps i).a = some x → ∃ y,a = some y ∧ x.block = y.block:=by
 intro x hx
 unfold dgP at hx
 cases e:ps[i]? with
 | none => rw [e] at hx; cases hx
 | some p => rw [e] at hx; exact h p (List.mem_of_getElem? e) x hx
theorem wide_two {w:World} {a:Option Addr} {n c v:Nat} {ps:List Pc} (h:Wide w a n c v ps) (hn:n ≤ 2):v = val (dgP ps 0).xs + wD * val (dgP ps 1).xs:=by
 have e:=wv_sF ps 2 (by rw [h.sl.len]; omega)
 rw [h.val] at e
 rw [e]
 simp only [sF,Nat.pow_zero,Nat.pow_one,Nat.one_mul,Nat.zero_add]
end Go.Proofs.YtmnlhnmlgncedaaGreatDoor
