/- Rb4 -/
import Derived.Test.YtpbcnkcnjnefiaaGreatDoorRb3
import Derived.Test.YtpbcnkcnjnefiaaGreatDoorWis
import Derived.Test.YtpbcnkcnjnefiaaGreatDoorGb
import Derived.Deep.LoopGhost
import Derived.Test.YtpbcnkcnjnefiaaGreatDoorRa6
import Derived.Test.YtpbcnkcnjnefiaaGreatDoorWic
namespace Go.Proofs.YtpbcnkcnjnefiaaGreatDoor
open Go.RowKit Go.Deep
set_option linter.unusedVariables false
def mnL (g:Bool):List Nat:=if g then [45] else []
theorem mnL_str (g:Bool):mnB g = strB (mnL g):=by cases g <;> rfl
theorem txt_byte {V n p:Nat} (hp:p < n):48 ≤ (txtL V 10 n).getD p 0 ∧ (txtL V 10 n).getD p 0 ≤ 57:=by
 have hg:(txtL V 10 n).getD p 0 = chrN (dgt V 10 (n - 1 - p)):=lst_getD _ _ _ hp
 have:=dgt_lt V (n - 1 - p) (b:=10) (by decide)
 rw [hg]
 unfold chrN
 rw [if_pos this]
 omega
theorem kd_at {l:List Nat} {p:Nat} (hp:p < l.length) (h:l.getD p 0 < 256):kdA (strB l) p = kdN (l.getD p 0):=by
 unfold kdA byA
 rw [strB_size,if_neg (by omega),strB_get hp h]
theorem kd_end (l:List Nat):kdA (strB l) l.length = 7:=by
 unfold kdA
 rw [strB_size,if_pos rfl]
theorem getD_app1 {a b:List Nat} {p:Nat} (h:p < a.length):(a ++ b).getD p 0 = a.getD p 0:=by
 simp [List.getD,List.getElem?_append_left h]
theorem getD_app2 {a b:List Nat} {p:Nat}:(a ++ b).getD (a.length + p) 0 = b.getD p 0:=by
 simp [List.getD,List.getElem?_append_right]
theorem pr_head (g:Bool) (V n:Nat) (r:List Nat) (hn:1 ≤ n):(∀ j,j < (mnL g).length → stS (strB (mnL g ++ (txtL V 10 n ++ r))) (j + 1) = 2) ∧ (∀ j,j < n → stS (strB (mnL g ++ (txtL V 10 n ++ r))) ((mnL g).length + j + 1) = 3):=by
 have hl:=txtL_len V 10 n
 have hd:∀ j,j < n → kdA (strB (mnL g ++ (txtL V 10 n ++ r))) ((mnL g).length + j) = 1:=by
  intro j hj
  have hb:=txt_byte (V:=V) hj
  have e:(mnL g ++ (txtL V 10 n ++ r)).getD ((mnL g).length + j) 0 = (txtL V 10 n).getD j 0:=by rw [getD_app2,getD_app1 (by omega)]
  rw [kd_at (by simp; omega) (by rw [e]; omega),e]
  exact kd_digit hb.1 hb.2
 cases g
 ·refine ⟨fun j hj => absurd hj (by simp [mnL]),?_⟩
  exact st_run (b:=3) (by show nxS 1 1 = 3; decide) (by decide) hd
 ·have h1:stS (strB (mnL true ++ (txtL V 10 n ++ r))) 1 = 2:=by
   show nxS 1 (kdA (strB (mnL true ++ (txtL V 10 n ++ r))) 0) = 2
   have e:(mnL true ++ (txtL V 10 n ++ r)).getD 0 0 = 45:=rfl
   rw [kd_at (by simp [mnL]) (by rw [e]; decide),e]
   decide
  refine ⟨fun j hj => ?_,?_⟩
  ·have:j = 0:=by simp [mnL] at hj; omega
   subst this
   exact h1
  ·exact st_run (b:=3) (by rw [show (mnL true).length = 1 from rfl,h1]; decide) (by decide) hd
theorem pr_whole (g:Bool) (V n:Nat) (hn:1 ≤ n) {s:ByteArray} (hs:s = strB (mnL g ++ txtL V 10 n)) :
  (∀ j,j ≤ s.size → stS s (j + 1) ≠ 0 ∧ stS s (j + 1) ≠ 6 ∧ stS s (j + 1) ≠ 8) ∧ lastS s 4 (s.size + 1) = 0 ∧ hasS s 2 (s.size + 1) = g:=by
 have hh:=pr_head g V n [] hn
 rw [List.append_nil] at hh
 rw [← hs] at hh
 have hsz:s.size = (mnL g).length + n:=by rw [hs,strB_size]; simp [txtL_len]
 have hend:stS s ((mnL g).length + n + 1) = 11:=by
  show nxS (stS s ((mnL g).length + n)) (kdA s ((mnL g).length + n)) = 11
  have h1:=hh.2 (n - 1) (by omega)
  rw [show (mnL g).length + (n - 1) + 1 = (mnL g).length + n by omega] at h1
  have h2:kdA s ((mnL g).length + n) = 7:=by
   have:=kd_end (mnL g ++ txtL V 10 n)
   rw [← hs] at this
   simpa [txtL_len] using this
  rw [h1,h2]
  decide
 have hst:∀ j,j ≤ s.size → (stS s (j + 1) = 2 ∧ j < (mnL g).length) ∨ stS s (j + 1) = 3 ∨ stS s (j + 1) = 11:=by
  intro j hj
  by_cases k1:j < (mnL g).length
  ·exact .inl ⟨hh.1 j k1,k1⟩
  ·by_cases k2:j < (mnL g).length + n
   ·right; left
    have:=hh.2 (j - (mnL g).length) (by omega)
    rw [show (mnL g).length + (j - (mnL g).length) + 1 = j + 1 by omega] at this
    exact this
   ·right; right
    rw [show j = (mnL g).length + n by omega]
    exact hend
 refine ⟨fun j hj => ?_,lastS_none fun j hj => ?_,?_⟩
 ·rcases hst j hj with ⟨h,_⟩ | h | h <;> rw [h] <;> decide
 ·rcases hst j (by omega) with ⟨h,_⟩ | h | h <;> rw [h] <;> decide
 ·cases g
  ·refine hasS_none fun j hj => ?_
   rcases hst j (by omega) with ⟨h,h'⟩ | h | h
   ·simp [mnL] at h'
   ·rw [h]; decide
   ·rw [h]; decide
  ·exact hasS_some (p:=0) (by omega) (hh.1 0 (by simp [mnL]))
theorem pr_frac (g:Bool) (V n U m:Nat) (hn:1 ≤ n) (hm:1 ≤ m) {s:ByteArray} (hs:s = strB (mnL g ++ (txtL V 10 n ++ (47 :: txtL U 10 m)))) :
  (∀ j,j ≤ s.size → stS s (j + 1) ≠ 0 ∧ stS s (j + 1) ≠ 6 ∧ stS s (j + 1) ≠ 8) ∧ lastS s 4 (s.size + 1) = (mnL g).length + n ∧ hasS s 2 (s.size + 1) = g:=by
 have hh:=pr_head g V n (47 :: txtL U 10 m) hn
 rw [← hs] at hh
 obtain ⟨l,hl⟩:∃ l,mnL g ++ (txtL V 10 n ++ (47 :: txtL U 10 m)) = l:=⟨_,rfl⟩
 have hsz:s.size = (mnL g).length + n + 1 + m:=by rw [hs,strB_size]; simp [txtL_len]; omega
 have hll:l.length = s.size:=by rw [hs,strB_size,hl]
 rw [hl] at hs
 have h3:stS s ((mnL g).length + n) = 3:=by
  have h1:=hh.2 (n - 1) (by omega)
  rwa [show (mnL g).length + (n - 1) + 1 = (mnL g).length + n by omega] at h1
 have hg2:∀ p,l.getD ((mnL g).length + n + p) 0 = (47 :: txtL U 10 m).getD p 0:=by
  intro p
  rw [← hl,Nat.add_assoc,getD_app2]
  have:=getD_app2 (a:=txtL V 10 n) (b:=47 :: txtL U 10 m) (p:=p)
  rw [txtL_len] at this
  exact this
 have h4:stS s ((mnL g).length + n + 1) = 4:=by
  show nxS (stS s ((mnL g).length + n)) (kdA s ((mnL g).length + n)) = 4
  have e:=hg2 0
  rw [Nat.add_zero] at e
  have e2:l.getD ((mnL g).length + n) 0 = 47:=e
  have h2:kdA s ((mnL g).length + n) = 4:=by
   rw [hs,kd_at (by omega) (by rw [e2]; decide),e2]
   decide
  rw [h3,h2]
  decide
 have h5:∀ j,j < m → stS s ((mnL g).length + n + 1 + j + 1) = 5:=by
  refine st_run (b:=5) (by rw [h4]; decide) (by decide) fun j hj => ?_
  have hb:=txt_byte (V:=U) hj
  have e:=hg2 (1 + j)
  rw [← Nat.add_assoc] at e
  have e2:l.getD ((mnL g).length + n + 1 + j) 0 = (txtL U 10 m).getD j 0:=by
   rw [e,Nat.add_comm 1 j]
   rfl
  rw [hs,kd_at (by omega) (by rw [e2]; omega),e2]
  exact kd_digit hb.1 hb.2
 have hend:stS s ((mnL g).length + n + 1 + m + 1) = 11:=by
  show nxS (stS s ((mnL g).length + n + 1 + m)) (kdA s ((mnL g).length + n + 1 + m)) = 11
  have h6:=h5 (m - 1) (by omega)
  rw [show (mnL g).length + n + 1 + (m - 1) + 1 = (mnL g).length + n + 1 + m by omega] at h6
  have h7:kdA s ((mnL g).length + n + 1 + m) = 7:=by
   have:=kd_end l
   rw [← hs,hll,hsz] at this
   exact this
  rw [h6,h7]
  decide
 have hst:∀ j,j ≤ s.size → (stS s (j + 1) = 2 ∧ j < (mnL g).length) ∨ stS s (j + 1) = 3 ∨ (stS s (j + 1) = 4 ∧ j = (mnL g).length + n) ∨ stS s (j + 1) = 5 ∨ stS s (j + 1) = 11:=by
  intro j hj
  by_cases k1:j < (mnL g).length
  ·exact .inl ⟨hh.1 j k1,k1⟩
  ·by_cases k2:j < (mnL g).length + n
   ·right; left
    have:=hh.2 (j - (mnL g).length) (by omega)
    rwa [show (mnL g).length + (j - (mnL g).length) + 1 = j + 1 by omega] at this
   ·by_cases k3:j = (mnL g).length + n
    ·right; right; left
     rw [k3]
     exact ⟨h4,rfl⟩
    ·by_cases k4:j < (mnL g).length + n + 1 + m
     ·right; right; right; left
      have:=h5 (j - ((mnL g).length + n + 1)) (by omega)
      rwa [show (mnL g).length + n + 1 + (j - ((mnL g).length + n + 1)) + 1 = j + 1 by omega] at this
     ·right; right; right; right
      rw [show j = (mnL g).length + n + 1 + m by omega]
      exact hend
 refine ⟨fun j hj => ?_,lastS_at (by omega) h4 fun j h1 h2 => ?_,?_⟩
 ·rcases hst j hj with ⟨h,_⟩ | h | ⟨h,_⟩ | h | h <;> rw [h] <;> decide
 ·rcases hst j (by omega) with ⟨h,h'⟩ | h | ⟨h,h'⟩ | h | h
  ·omega
  ·rw [h]; decide
  ·omega
  ·rw [h]; decide
  ·rw [h]; decide
 ·cases g
  ·refine hasS_none fun j hj => ?_
   rcases hst j (by omega) with ⟨h,h'⟩ | h | ⟨h,_⟩ | h | h
   ·simp [mnL] at h'
   all_goals (rw [h]; decide)
  ·exact hasS_some (p:=0) (by omega) (hh.1 0 (by simp [mnL]))
structure MvR (wr w:World) (B g n cp:Nat) (xs:List Nat) (k:Nat):Prop where
 own:Ow wr B (some ⟨g,0,none⟩) n cp ((xs.drop 1).take k ++ xs.drop k)
 chg:Chg (fun j => AtB (some ⟨g,0,none⟩) j) w wr

theorem mv_len {xs:List Nat} {k n:Nat} (hl:xs.length = n) (hk:k + 1 ≤ n):((xs.drop 1).take k).length = k:=by simp [hl]; omega
theorem MvR.step {wr w:World} {B g n cp:Nat} {xs:List Nat} {k:Nat} (h:MvR wr w B g n cp xs k) (hl:xs.length = n) (hk:k + 1 < n) :
  MvR (wr.setCell ⟨g,k,none⟩ (.int .u32 (xs.getD (k + 1) 0:Nat))) w B g n cp xs (k + 1):=by
 refine ⟨?_,h.chg.trans (.of_set _ _ _ _ atB_some)⟩
 have:=h.own.set k (xs.getD (k + 1) 0)
 rw [set_mid (mv_len hl (by omega)) hl (by omega)] at this
 have e:(xs.drop 1).take k ++ [xs.getD (k + 1) 0] = (xs.drop 1).take (k + 1):=by
  rw [List.take_succ_eq_append_getElem (by simp; omega)]
  simp [List.getD,show k + 1 < xs.length from by omega]
 rw [e] at this
 exact this
theorem MvR.fin {wr w:World} {B g n cp v:Nat} {k:Nat} (h:MvR wr w B g n cp (limbs v) k) (hl:(limbs v).length = n) (hk:k + 1 = n) :
  Ow wr B (some ⟨g,0,none⟩) (n - 1) cp (limbs (v / 4294967296)):=by
 have h1:=h.own.take (m:=n - 1) (by omega)
 have e1:=mv_len hl (k:=k) (by omega)
 rw [List.take_append_of_le_length (by omega),List.take_of_length_le (by omega)] at h1
 have e2:((limbs v).drop 1).take k = (limbs v).drop 1:=List.take_of_length_le (by simp; omega)
 rw [e2] at h1
 have e3:(limbs v).drop 1 = limbs (v / 4294967296):=by
  have hv:=val_drop (limbs_ok v) 1
  rw [limbs_v,Nat.pow_one] at hv
  have nn:Norm ((limbs v).drop 1):=by
   have:=limbs_norm v
   cases hh:limbs v with
   | nil => left; rfl
   | cons x xs => rw [hh] at this; simpa using norm_tail this
  rw [← hv]
  exact (limbs_val ((limbs_ok v).drop 1) nn).symm
 rw [← e3]
 exact h1

structure MbR (wr w:World) (B g n cp:Nat) (xs:List Nat) (s k:Nat):Prop where
 own:Ow wr B (some ⟨g,0,none⟩) n cp (lst (shF xs 0 s) k ++ xs.drop k)
 chg:Chg (fun j => AtB (some ⟨g,0,none⟩) j) w wr
theorem MbR.step {wr w:World} {B g n cp:Nat} {xs:List Nat} {s k:Nat} (h:MbR wr w B g n cp xs s k) (hl:xs.length = n) (hk:k < n) :
  MbR (wr.setCell ⟨g,k,none⟩ (.int .u32 (srd (xs.getD k 0) (xs.getD (k + 1) 0) s:Nat))) w B g n cp xs s (k + 1):=by
 refine ⟨?_,h.chg.trans (.of_set _ _ _ _ atB_some)⟩
 have:=h.own.set k (srd (xs.getD k 0) (xs.getD (k + 1) 0) s)
 rw [set_mid (lst_len _ _) hl hk] at this
 have e:lst (shF xs 0 s) k ++ [srd (xs.getD k 0) (xs.getD (k + 1) 0) s] = lst (shF xs 0 s) (k + 1):=by
  simp [lst,List.range_succ,shF]
 rw [e] at this
 exact this
structure StrP (w w':World) (B:Nat) (a:Option Addr) (cp v m k u:Nat):Prop where
 own:Ow w' B a m cp (limbs u)
 eq:v = u * 2 ^ k
 odd:u % 2 = 1
 chg:Chg (fun j => AtB a j) w w'
theorem odd_cop {u:Nat} (h:u % 2 = 1) (k:Nat):Nat.Coprime (2 ^ k) u:=by
 apply Nat.Coprime.pow_left
 show Nat.gcd 2 u = 1
 rw [Nat.gcd_rec,h,Nat.gcd_one_left]
theorem wgcd_odd {u:Nat} (h:u % 2 = 1) (x k:Nat):Nat.gcd (x * 2 ^ k) u = Nat.gcd x u:=Nat.Coprime.gcd_mul_right_cancel x (odd_cop h k)
theorem gcd_less {a b:Nat} (h:b ≤ a):Nat.gcd (a - b) b = Nat.gcd a b:=by
 obtain ⟨c,rfl⟩:∃ c,a = b + c:=⟨a - b,by omega⟩
 rw [Nat.add_sub_cancel_left,Nat.gcd_comm,Nat.gcd_comm (b + c)]
 rw [Nat.add_comm,Nat.gcd_add_self_right]

structure GwR (wr w:World) (M G g:Nat) (aa:Option Addr) (ma ca A:Nat) (ab:Option Addr) (mb cb Bv:Nat):Prop where
 oa:Ow wr w.heap.size aa ma ca (limbs A)
 ob:Ow wr w.heap.size ab mb cb (limbs Bv)
 ne:∀ k,AtB aa k → ¬ AtB ab k
 odd:Bv % 2 = 1
 gcd:Nat.gcd A Bv = G
 gh:g = A + Bv
 ba:A < 4294967296 ^ M
 bb:Bv < 4294967296 ^ M
 bel:Below w.heap.size w wr

theorem GwR.stripped {wr w w3:World} {M G g:Nat} {aa:Option Addr} {ma ca A:Nat} {ab:Option Addr} {mb cb Bv m2 k2 A2:Nat} (h:GwR wr w M G g aa ma ca A ab mb cb Bv) (p:StrP wr w3 w.heap.size aa ca A m2 k2 A2):Nat.gcd A2 Bv = G:=by
 rw [← h.gcd,p.eq,wgcd_odd h.odd]
theorem GwR.le {wr w w3:World} {A m2 k2 A2 ca:Nat} {aa:Option Addr} (p:StrP wr w3 w.heap.size aa ca A m2 k2 A2):A2 ≤ A ∧ 0 < A2:=by
 have h2:A2 * 1 ≤ A2 * 2 ^ k2:=Nat.mul_le_mul_left _ (Nat.two_pow_pos _)
 have:=p.eq
 have:=p.odd
 omega
theorem GwR.less {wr w w3 w6:World} {M G g:Nat} {aa:Option Addr} {ma ca A:Nat} {ab:Option Addr} {mb cb Bv m2 k2 A2 m6 j:Nat} (h:GwR wr w M G g aa ma ca A ab mb cb Bv) (p:StrP wr w3 w.heap.size aa ca A m2 k2 A2) (hlt:A2 < Bv)
  (hO6:Ow w6 w.heap.size ab m6 cb (limbs (Bv - A2))) (hc6:Chg (fun k => AtB ab k) (w3.drewN j) w6):∃ g6,g6 < g ∧ GwR w6 w M G g6 ab m6 cb (Bv - A2) aa m2 ca A2:=by
 have hl:=GwR.le p
 have h6:Chg (fun k => AtB ab k) w3 w6:=(Chg.of_drewN w3 j).trans hc6
 have hb3:Below w.heap.size w w3:=h.bel.trans (p.chg.below h.bel.size (fun k hk hh => by have:=(h.oa.lt hh).1; omega))
 refine ⟨Bv - A2 + A2,by have:=h.gh; omega,hO6,p.own.chg h6 (fun k hk hh => h.ne k hk hh),fun k hk hh => h.ne k hh hk,p.odd,?_,rfl,by have:=h.bb; omega,by have:=h.ba; omega,hb3.trans (h6.below hb3.size (fun k hk hh => by have:=(h.ob.lt hh).1; omega))⟩
 rw [gcd_less (by omega),Nat.gcd_comm]
 exact h.stripped p
theorem GwR.more {wr w w3 w6:World} {M G g:Nat} {aa:Option Addr} {ma ca A:Nat} {ab:Option Addr} {mb cb Bv m2 k2 A2 m6 j:Nat} (h:GwR wr w M G g aa ma ca A ab mb cb Bv) (p:StrP wr w3 w.heap.size aa ca A m2 k2 A2) (hge:Bv ≤ A2)
  (hO6:Ow w6 w.heap.size aa m6 ca (limbs (A2 - Bv))) (hc6:Chg (fun k => AtB aa k) (w3.drewN j) w6):∃ g6,g6 < g ∧ GwR w6 w M G g6 aa m6 ca (A2 - Bv) ab mb cb Bv:=by
 have hl:=GwR.le p
 have hod:=h.odd
 have h6:Chg (fun k => AtB aa k) w3 w6:=(Chg.of_drewN w3 j).trans hc6
 have hb3:Below w.heap.size w w3:=h.bel.trans (p.chg.below h.bel.size (fun k hk hh => by have:=(h.oa.lt hh).1; omega))
 refine ⟨A2 - Bv + Bv,by have:=h.gh; omega,hO6,(h.ob.chg p.chg (fun k hk hh => h.ne k hh hk)).chg h6 (fun k hk hh => h.ne k hh hk),h.ne,h.odd,?_,rfl,by have:=h.ba; omega,h.bb,hb3.trans (h6.below hb3.size (fun k hk hh => by have:=(h.oa.lt hh).1; omega))⟩
 rw [gcd_less hge]
 exact h.stripped p

def ByPost (N:Nat) (w w':World) (q r:Nat) (e:Ending):Prop:=∃ a n c ps a' m c',e = .returned (.tuple #[.slice a n c,.slice a' m c']) ∧ Wide w' a n c q ps ∧ n ≤ N ∧ Sl w' a' m c' (limbs r) ∧ Below w.heap.size w w'

theorem guess_ge {B d d1 d0 r x:Nat} (hB:0 < B) (hd:d = d1 * B + d0) (h1:0 < d1) (hx:x < B):(r * B + x) / d ≤ r / d1:=by
 rw [Nat.le_div_iff_mul_le h1]
 have hdp:0 < d:=by rw [hd]; exact Nat.lt_of_lt_of_le (Nat.mul_pos h1 hB) (Nat.le_add_right _ _)
 have hq:(r * B + x) / d * d ≤ r * B + x:=Nat.div_mul_le_self _ _
 generalize (r * B + x) / d = q at *
 have h2:q * d1 * B ≤ q * d:=by rw [hd,Nat.mul_add,Nat.mul_assoc]; exact Nat.le_add_right _ _
 have h3:q * d1 * B < (r + 1) * B:=by rw [Nat.add_mul]; omega
 exact Nat.le_of_lt_succ (Nat.lt_of_mul_lt_mul_right h3)
theorem digit_lt {B d r x:Nat} (hr:r < d) (hx:x < B):(r * B + x) / d < B:=by
 rw [Nat.div_lt_iff_lt_mul (by omega)]
 have h:(r + 1) * B ≤ d * B:=Nat.mul_le_mul_right _ hr
 rw [Nat.add_mul] at h
 rw [Nat.mul_comm B d]
 omega

theorem limbs_is_one {G:Nat}:limbs G = [1] ↔ G = 1:=by
 constructor
 ·intro h
  have:=(limbs_rep G).val
  rw [h] at this
  simpa [val] using this.symm
 ·intro h
  have:=limbs_val (xs:=[1]) (by intro x hx; simp at hx; subst hx; decide) (by simp [Norm])
  rw [h]
  simpa [val] using this

set_option maxHeartbeats 8000000 in
theorem cancel_any (N:Nat) (a1 a2:Option Addr) (n1 c1 n2 c2 v:Nat) (ps:List Pc) (ys:List Nat) (w:World) (h1:Wide w a1 n1 c1 v ps) (hn1:n1 ≤ N) (h2:Sl w a2 n2 c2 ys) (oy:Ok ys) (m2:MayL ys = true) (hy:ys ≠ []) (hT:Tab64 w)
  (hBy:∀ W a m c zs,Below w.heap.size w W → Sl W a m c zs → Ok zs → MayL zs = true → zs ≠ [] → Calls Tryz.prog 95 #[.slice a1 n1 c1,.slice a m c] W fun e w' => ByPost N W w' (v / val zs) (v % val zs) e) :
  Calls Tryz.prog 87 #[.slice a1 n1 c1,.slice a2 n2 c2] w fun e w' => ByPost N w w' (v / Nat.gcd v (val ys)) (val ys / Nat.gcd v (val ys)) e:=by
 have vy:=val_pos_of_may m2 hy
 have K1:=isOne_any a2 n2 c2 ys w h2 oy
 by_cases e1:ys = [1]
 ·rw [decide_eq_true e1] at K1
  have HE:=Hd (show v / Nat.gcd v (val ys) = v ∧ limbs (val ys / Nat.gcd v (val ys)) = ys from by
   have hv1:val ys = 1:=by rw [e1]; simp [val]
   refine ⟨by rw [hv1]; simp,?_⟩
   have:Nat.gcd v (val ys) = 1:=by rw [hv1]; simp
   rw [this,Nat.div_one]
   exact limbs_val oy (MayL.norm m2))
  have HK:=Hd K1
  have H:=Hd (And.intro h1 (And.intro hn1 h2))
  clear K1 e1 h1 h2 hBy hT
  go_enter Tryz.func87,Tryz.ntmps87
  go_wp2_with fail
  refine (Uh HK).mono ?_
  rintro _ _ ⟨rfl,hw⟩
  obtain rfl:=hw.symm
  clear hw
  go_wp2_with fail
  go_ret2
  exact ⟨a1,n1,c1,ps,a2,n2,c2,rfl,by rw [(Uh HE).1]; exact (Uh H).1,(Uh H).2.1,by rw [(Uh HE).2]; exact (Uh H).2.2,Below.refl _ _⟩
 ·rw [decide_eq_false e1] at K1
  have HK:=Hd K1
  have hgcd:Nat.gcd (v % val ys) (val ys) = Nat.gcd v (val ys):=by rw [Nat.gcd_comm v,Nat.gcd_rec (val ys) v]
  have mr:MayL (limbs (v % val ys)) = true:=may_small m2 oy (Nat.le_of_lt (Nat.mod_lt _ vy))
  have HB1:=Hd (hBy w a2 n2 c2 ys (Below.refl _ _) h2 oy m2 hy)
  have hgp:0 < Nat.gcd v (val ys):=Nat.gcd_pos_of_pos_right _ vy
  have mg:MayL (limbs (Nat.gcd v (val ys))) = true:=may_small m2 oy (Nat.gcd_le_right _ vy)
  obtain ⟨G,hG⟩:∃ G,Nat.gcd v (val ys) = G:=⟨_,rfl⟩
  rw [hG] at hgcd hgp mg ⊢
  have HG:=Hd hgcd
  clear K1 e1 hgcd hG
  go_enter Tryz.func87,Tryz.ntmps87
  go_wp2_with fail
  refine (Uh HK).mono ?_
  rintro _ _ ⟨rfl,hw⟩
  obtain rfl:=hw.symm
  clear hw
  go_wp2_with fail
  refine (Uh HB1).mono ?_
  rintro _ wb ⟨ab,nb,cb,bs,ar,mr_,cr,rfl,hWb,hnb,sr,hbb⟩
  have KD:=ratDivisor_any ar a2 mr_ cr n2 c2 (limbs (v % val ys)) ys wb sr (h2.below hbb) (limbs_rep _).ok oy mr m2 (hT.below hbb)
  rw [(limbs_rep _).val,Uh HG] at KD
  have HKD:=Hd KD
  have HBb:=Hd hbb
  clear KD hWb hnb sr hbb HB1 HK
  go_wp2_with fail
  refine (Uh HKD).mono ?_
  rintro _ wd ⟨ad,md,cd,rfl,sd,nd,bd⟩
  have hbd:=(Uh HBb).trans (bd.mono (Uh HBb).size)
  have KO:=isOne_any ad md cd (limbs G) wd sd (limbs_rep _).ok
  by_cases g1:G = 1
  ·rw [decide_eq_true (limbs_is_one.2 g1)] at KO
   have HKO:=Hd KO
   have H:=Hd (And.intro (h1.below hbd) (And.intro hn1 (And.intro (h2.below hbd) hbd)))
   have HL:=Hd (limbs_val oy (MayL.norm m2))
   clear KO HKD h1 h2 hBy hT sd nd bd hbd
   subst g1
   go_wp2_with fail
   refine (Uh HKO).mono ?_
   rintro _ _ ⟨rfl,hw⟩
   obtain rfl:=hw.symm
   clear hw
   go_wp2_with fail
   go_ret2
   exact ⟨a1,n1,c1,ps,a2,n2,c2,rfl,by rw [Nat.div_one]; exact (Uh H).1,(Uh H).2.1,by rw [Nat.div_one,Uh HL]; exact (Uh H).2.2.1,(Uh H).2.2.2⟩
  ·rw [decide_eq_false (fun h => g1 (limbs_is_one.1 h))] at KO
   have HKO:=Hd KO
   have nzG:limbs G ≠ []:=limbs_ne hgp
   have KB:=hBy wd ad md cd (limbs G) hbd sd (limbs_rep _).ok mg nzG
   rw [(limbs_rep _).val] at KB
   have HKB:=Hd KB
   have HQ:=Hd (fun (W:World) (hb:Below wd.heap.size wd W) => (by have K:=ratQuotient_any a2 ad n2 c2 md cd ys (limbs G) W ((h2.below hbd).below hb) (sd.below hb) oy (limbs_rep _).ok m2 mg nzG; rw [(limbs_rep _).val] at K; exact K:Calls Tryz.prog 80 #[.slice a2 n2 c2,.slice ad md cd] W fun e w' => OldN W w' a2 n2 c2 (val ys / G) e))
   have HBd:=Hd hbd
   clear KO KB HKD h1 h2 hBy hT sd nd bd hbd
   go_wp2_with fail
   refine (Uh HKO).mono ?_
   rintro _ _ ⟨rfl,hw⟩
   obtain rfl:=hw.symm
   clear hw HKO
   go_wp2_with fail
   refine (Uh HKB).mono ?_
   rintro _ we ⟨ae,ne,ce,es,as_,ms,cs,rfl,hWe,hne,ss,hbe⟩
   have HK2:=Hd (Uh HQ we hbe)
   have H:=Hd (And.intro hWe (And.intro hne hbe))
   clear hWe hne ss hbe HKB HQ
   go_wp2_with fail
   refine (Uh HK2).mono ?_
   rintro _ wf ⟨af,mf,cf,rfl,sf,of,bf⟩
   have H2:=Hd (And.intro sf bf)
   clear sf of bf HK2
   go_wp2_with fail
   go_ret2
   exact ⟨ae,ne,ce,es,af,mf,cf,rfl,(Uh H).1.below (Uh H2).2,(Uh H).2.1,(Uh H2).1,(Uh HBd).trans (((Uh H).2.2.trans ((Uh H2).2.mono (Uh H).2.2.size)).mono (Uh HBd).size)⟩
end Go.Proofs.YtpbcnkcnjnefiaaGreatDoor
