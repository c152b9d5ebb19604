/- Dv5 -/
import Derived.Test.YtcajmdfcanopnaaDoorDv4
namespace Go.Proofs.YtcajmdfcanopnaaDoor
open Go.RowKit Go.Deep
set_option linter.unusedVariables false
theorem rep_len_le' {v j:Nat} {zs:List Nat} (h:Rep v zs) (hv:v < 4294967296 ^ j):zs.length ≤ j:=by
 rcases Nat.lt_or_ge j zs.length with hlt | hge
 ·exfalso
  have h1:=val_ge_of_norm h.norm (by intro e; subst e; simp at hlt)
  rw [h.val] at h1
  have h2:4294967296 ^ j ≤ 4294967296 ^ (zs.length - 1):=pow_mono (by omega)
  omega
 ·exact hge

theorem top_split {xs:List Nat} {n:Nat} (hl:xs.length = n) (h0:0 < n):val xs = val (xs.take (n - 1)) + 4294967296 ^ (n - 1) * xs.getD (n - 1) 0:=by
 rw [val_split xs (n - 1) (by omega),drop_cons (by omega),List.drop_eq_nil_of_le (by omega)]
 simp [val]

theorem norm_shift {ys zs:List Nat} {n s:Nat} (hl:ys.length = n) (h0:0 < n) (oy:Ok ys) (hbl:Lib.bitLen (ys.getD (n - 1) 0) + s = 32) (ht:ys.getD (n - 1) 0 ≠ 0) (hr:Rep (val ys * 2 ^ s) zs):zs.length = n ∧ 2147483648 ≤ zs.getD (n - 1) 0:=by
 have bt:=oy.getD (n - 1)
 have h1:=bl_lt _ _ (Nat.le_refl (ys.getD (n - 1) 0)) (by omega)
 have h2:=bl_ge _ _ (Nat.le_refl (ys.getD (n - 1) 0)) ht (by omega)
 have hb1:=bl_pos _ ht (by omega)
 have e:=top_split hl h0
 have hlo:=take_lt_pow oy (n - 1) (by omega)
 generalize ys.getD (n - 1) 0 = t at *
 generalize val (ys.take (n - 1)) = lo at *
 have p1:2 ^ Lib.bitLen t * 2 ^ s = 4294967296:=by rw [← Nat.pow_add,hbl]
 have p2:2 ^ (Lib.bitLen t - 1) * 2 ^ s = 2147483648:=by rw [← Nat.pow_add,show Lib.bitLen t - 1 + s = 31 from by omega]
 generalize 2 ^ Lib.bitLen t = T at *
 generalize 2 ^ (Lib.bitLen t - 1) = T' at *
 generalize 2 ^ s = S at *
 have q1:(t + 1) * S ≤ 4294967296:=by rw [← p1]; exact Nat.mul_le_mul_right _ h1
 have q2:2147483648 ≤ t * S:=by rw [← p2]; exact Nat.mul_le_mul_right _ h2
 have hpow:4294967296 ^ n = 4294967296 ^ (n - 1) * 4294967296:=by rw [← Nat.pow_succ]; congr 1; omega
 generalize hP:4294967296 ^ (n - 1) = P at *
 have hup:val ys * S < 4294967296 ^ n:=by
  rw [e,hpow]
  have a1:(lo + P * t) * S < (P * (t + 1)) * S ∨ S = 0:=by
   rcases Nat.eq_zero_or_pos S with k | k
   ·exact .inr k
   ·refine .inl (Nat.mul_lt_mul_of_pos_right ?_ k)
    rw [Nat.mul_add]; omega
  rcases a1 with a1 | a1
  ·rw [Nat.mul_assoc] at a1
   exact Nat.lt_of_lt_of_le a1 (Nat.mul_le_mul_left _ q1)
  ·rw [a1] at q2; omega
 have hdn:P * 2147483648 ≤ val ys * S:=by
  rw [e,Nat.add_mul,Nat.mul_assoc]
  exact Nat.le_trans (Nat.mul_le_mul_left P q2) (Nat.le_add_left _ _)
 have hP0:0 < P:=by rw [← hP]; exact pow_pos _
 have hlen:zs.length = n:=by
  have a:=rep_len_le' hr hup
  rcases Nat.lt_or_ge zs.length n with k | k
  ·exfalso
   have b:=val_lt hr.ok
   rw [hr.val] at b
   have c:4294967296 ^ zs.length ≤ P:=by rw [← hP]; exact pow_mono (by omega)
   omega
  ·omega
 refine ⟨hlen,?_⟩
 have ez:=top_split hlen h0
 rw [hr.val,hP] at ez
 have hz:=take_lt_pow hr.ok (n - 1) (by omega)
 rw [hP] at hz
 generalize zs.getD (n - 1) 0 = z at *
 rcases Nat.lt_or_ge z 2147483648 with k | k
 ·exfalso
  have:P * (z + 1) ≤ P * 2147483648:=Nat.mul_le_mul_left _ k
  rw [Nat.mul_add] at this
  omega
 ·exact k

structure LgR (wr w0:World) (bu bq bv ov n1 n2 m:Nat) (vs:List Nat) (A V k:Nat) (f g:Nat → Nat):Prop where
 fn:Fn wr bu 0 (n1 + 1) f
 ok:∀ i,i < n1 + 1 → f i < 4294967296
 qn:Fn wr bq 0 m g
 qk:∀ i,i < m → g i < 4294967296
 tot:valF f (n1 + 1) + 4294967296 ^ k * (valF (fun i => g (k + i)) (m - k) * V) = A
 lt:valF f (n1 + 1) < V * 4294967296 ^ k
 vc:Cells wr bv ov vs
 bel:Below w0.heap.size w0 wr

theorem mul_cancel {P a b:Nat} (hP:0 < P) (h:P * a < P * b):a < b:=Nat.lt_of_mul_lt_mul_left h

theorem lg_win {W rest lo P V Q t:Nat} (hP:0 < P) (h:t = lo + P * (W + Q * rest)) (hlt:t < V * (P * 4294967296)) (hV:V * 4294967296 ≤ Q) (hQ:0 < Q):W < V * 4294967296 ∧ rest = 0:=by
 have h1:P * (W + Q * rest) < P * (V * 4294967296):=by
  have:V * (P * 4294967296) = P * (V * 4294967296):=by rw [Nat.mul_left_comm]
  omega
 have h2:=mul_cancel hP h1
 refine ⟨by omega,?_⟩
 rcases Nat.eq_zero_or_pos rest with k | k
 ·exact k
 ·exfalso
  have:Q * 1 ≤ Q * rest:=Nat.mul_le_mul_left _ k
  omega

theorem lg_tot {t t' P W W' q V G:Nat} {A:Nat} (h:t + P * 4294967296 * (G * V) = A) (hw:W' + q * V = W) (h1:t' + P * W = t + P * W'):t' + P * ((q + 4294967296 * G) * V) = A:=by
 subst hw
 subst h
 rw [Nat.add_mul,Nat.mul_add P,Nat.mul_assoc 4294967296 G V,← Nat.mul_assoc P 4294967296]
 rw [Nat.mul_add] at h1
 omega

theorem LgR.win {wr w0:World} {bu bq bv ov n1 n2 m:Nat} {vs:List Nat} {A V k:Nat} {f g:Nat → Nat} (h:LgR wr w0 bu bq bv ov n1 n2 m vs A V (k + 1) f g) (hm:m + n2 = n1 + 1) (hk:k < m) (hV:V < 4294967296 ^ n2) :
  valF (fun i => f (k + i)) (n2 + 1) < V * 4294967296 ∧ valF (fun i => f (k + (n2 + 1 + i))) (n1 + 1 - k - (n2 + 1)) = 0:=by
 have e1:=valF_add f k (n1 + 1 - k)
 rw [show k + (n1 + 1 - k) = n1 + 1 from by omega] at e1
 have e2:=valF_add (fun i => f (k + i)) (n2 + 1) (n1 + 1 - k - (n2 + 1))
 rw [show n2 + 1 + (n1 + 1 - k - (n2 + 1)) = n1 + 1 - k from by omega] at e2
 rw [e2] at e1
 have hl:=h.lt
 rw [Nat.pow_succ] at hl
 refine lg_win (pow_pos k) e1 hl ?_ (pow_pos (n2 + 1))
 rw [Nat.pow_succ]
 exact Nat.mul_le_mul_right _ (Nat.le_of_lt hV)

def putWin (f f':Nat → Nat) (k n:Nat):Nat → Nat:=fun i => if i < k then f i else if i < k + n then f' (i - k) else f i

theorem putWin_fn {w w':World} {b N k n:Nat} {f f':Nat → Nat} (h:Fn w b 0 N f) (u:Upd b k (k + n) w w') (h':Fn w' b k n f') (hk:k + n ≤ N):Fn w' b 0 N (putWin f f' k n):=by
 intro i hi
 unfold putWin
 by_cases e1:i < k
 ·simp only [e1,if_true,Nat.zero_add]
  have:=h i hi
  rw [Nat.zero_add] at this
  exact ⟨(u.cell i (.inl e1)).trans this.1,(u.froz i).trans this.2⟩
 ·by_cases e2:i < k + n
  ·simp only [e1,e2,if_true,if_false,Nat.zero_add]
   have:=h' (i - k) (by omega)
   rw [show k + (i - k) = i from by omega] at this
   exact this
  ·simp only [e1,e2,if_false,Nat.zero_add]
   have:=h i hi
   rw [Nat.zero_add] at this
   exact ⟨(u.cell i (.inr (by omega))).trans this.1,(u.froz i).trans this.2⟩

theorem putWin_val (f f':Nat → Nat) (k n m:Nat):valF (putWin f f' k n) (k + (n + m)) + 4294967296 ^ k * valF (fun i => f (k + i)) n = valF f (k + (n + m)) + 4294967296 ^ k * valF f' n:=by
 have c1:=valF_add (putWin f f' k n) k (n + m)
 have c2:=valF_add f k (n + m)
 have c3:=valF_add (fun i => putWin f f' k n (k + i)) n m
 have c4:=valF_add (fun i => f (k + i)) n m
 rw [c3] at c1
 rw [c4] at c2
 rw [c1,c2]
 have a1:valF (putWin f f' k n) k = valF f k:=valF_congr (fun i hi => by simp [putWin,hi])
 have a2:valF (fun i => putWin f f' k n (k + i)) n = valF f' n:=valF_congr (fun i hi => by
  unfold putWin
  rw [if_neg (by omega),if_pos (by omega),Nat.add_sub_cancel_left])
 have a3:valF (fun i => putWin f f' k n (k + (n + i))) m = valF (fun i => f (k + (n + i))) m:=valF_congr (fun i hi => by
  unfold putWin
  rw [if_neg (by omega),if_neg (by omega)])
 rw [a1,a2,a3,Nat.mul_add,Nat.mul_add]
 omega

theorem putWin_ok {f f':Nat → Nat} {k n N:Nat} (h:∀ i,i < N → f i < 4294967296) (h':∀ i,i < n → f' i < 4294967296):∀ i,i < N → putWin f f' k n i < 4294967296:=by
 intro i hi
 unfold putWin
 split
 ·exact h i hi
 ·split
  ·exact h' _ (by omega)
  ·exact h i hi

theorem LgR.step {wr w1 w0:World} {bu bq bv ov n1 n2 m:Nat} {vs:List Nat} {A V k:Nat} {f g:Nat → Nat} (h:LgR wr w0 bu bq bv ov n1 n2 m vs A V (k + 1) f g) (hm:m + n2 = n1 + 1) (hk:k < m) (hV:V < 4294967296 ^ n2) (hb1:bq ≠ bu) (hb2:bv ≠ bu) (hb3:bv ≠ bq) (hu:w0.heap.size ≤ bu) (hq:w0.heap.size ≤ bq)
  {q:Nat} {f':Nat → Nat} (hqb:q < 4294967296) (hF:Fn w1 bu k (n2 + 1) f') (hok:∀ i,i < n2 + 1 → f' i < 4294967296) (hval:valF f' (n2 + 1) + q * V = valF (fun i => f (k + i)) (n2 + 1)) (hlt:valF f' (n2 + 1) < V) (u:Upd bu k (k + (n2 + 1)) wr w1) :
  LgR (w1.setCell ⟨bq,0 + k,none⟩ (.int .u32 (q:Nat))) w0 bu bq bv ov n1 n2 m vs A V k (putWin f f' k (n2 + 1)) (fun i => if i = k then q else g i):=by
 have ⟨hw,hz⟩:=h.win hm hk hV
 have uq:Upd bq (0 + k) (0 + k + 1) w1 (w1.setCell ⟨bq,0 + k,none⟩ (.int .u32 (q:Nat))):=(Upd.refl _ _ _ w1).set _ _ (Nat.le_refl _) (by omega)
 have qn1:Fn w1 bq 0 m g:=u.fn h.qn (.inl hb1)
 have eN:n1 + 1 = k + (n2 + 1 + (n1 + 1 - k - (n2 + 1))):=by omega
 have hpv:=putWin_val f f' k (n2 + 1) (n1 + 1 - k - (n2 + 1))
 rw [← eN] at hpv
 have heg:valF (fun i => (fun i => if i = k then q else g i) (k + i)) (m - k) = q + 4294967296 * valF (fun i => g (k + 1 + i)) (m - (k + 1)):=by
  rw [valF_head (fun i => if i = k then q else g i) k m hk]
  simp only [if_true]
  congr 2
  exact valF_congr (fun i _ => by rw [if_neg (by omega)])
 refine ⟨uq.fn (putWin_fn h.fn u hF (by omega)) (.inl hb1.symm),putWin_ok h.ok hok,qn1.set k q hk,?_,?_,?_,uq.cells (u.cells h.vc (.inl hb2)) (.inl hb3),?_⟩
 ·intro i hi
  by_cases e:i = k
  ·simp only [e,if_true]; exact hqb
  ·simp only [e,if_false]; exact h.qk i hi
 ·rw [heg]
  have ht:=h.tot
  rw [Nat.pow_succ] at ht
  exact lg_tot ht hval hpv
 ·have e1:=valF_add (putWin f f' k (n2 + 1)) k (n2 + 1 + (n1 + 1 - k - (n2 + 1)))
  have e2:=valF_add (fun i => putWin f f' k (n2 + 1) (k + i)) (n2 + 1) (n1 + 1 - k - (n2 + 1))
  have a2:valF (fun i => putWin f f' k (n2 + 1) (k + i)) (n2 + 1) = valF f' (n2 + 1):=valF_congr (fun i hi => by
   unfold putWin
   rw [if_neg (by omega),if_pos (by omega),Nat.add_sub_cancel_left])
  have a3:valF (fun i => putWin f f' k (n2 + 1) (k + (n2 + 1 + i))) (n1 + 1 - k - (n2 + 1)) = 0:=by
   rw [← hz]
   exact valF_congr (fun i hi => by
    unfold putWin
    rw [if_neg (by omega),if_neg (by omega)])
  have a1:valF (putWin f f' k (n2 + 1)) k < 4294967296 ^ k:=valF_lt (fun i hi => putWin_ok h.ok hok i (by omega))
  rw [a2,a3,Nat.mul_zero,Nat.add_zero] at e2
  rw [← eN,e2] at e1
  rw [e1,Nat.mul_comm V]
  exact low_lt a1 hlt
 ·exact h.bel.trans ((u.below hu h.bel.size).trans (uq.below hq (Nat.le_trans h.bel.size u.size)))

theorem LgR.drewN {wr w0:World} {bu bq bv ov n1 n2 m:Nat} {vs:List Nat} {A V k:Nat} {f g:Nat → Nat} (h:LgR wr w0 bu bq bv ov n1 n2 m vs A V k f g) (j:Nat):LgR (wr.drewN j) w0 bu bq bv ov n1 n2 m vs A V k f g:=⟨h.fn,h.ok,h.qn,h.qk,h.tot,h.lt,h.vc,bel_drewN h.bel j⟩
end Go.Proofs.YtcajmdfcanopnaaDoor
