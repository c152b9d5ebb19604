/- Rd3 -/
import Derived.Test.YtlolnaegfponeaaGreatDoorWr7
import Derived.Test.YtlolnaegfponeaaGreatDoorDv3
import Derived.Test.YtlolnaegfponeaaGreatDoorDv7
namespace Go.Proofs.YtlolnaegfponeaaGreatDoor
open Go.RowKit Go.Deep
set_option linter.unusedVariables false
theorem dm_less {V D i r:Nat} (hD:0 < D) (hr:r = 2 * (V / 2 ^ (i + 1) % D) + bitN V i) (h:r < D):V / 2 ^ i % D = r ∧ V / 2 ^ i / D * 2 ^ i = V / 2 ^ (i + 1) / D * 2 ^ (i + 1):=by
 have e1:V / 2 ^ (i + 1) = V / 2 ^ i / 2:=by rw [Nat.pow_succ,Nat.div_div_eq_div_mul]
 have e2:V / 2 ^ i = D * (2 * (V / 2 ^ (i + 1) / D)) + r:=by
  have h1:=Nat.div_add_mod (V / 2 ^ i) 2
  have h2:=Nat.div_add_mod (V / 2 ^ (i + 1)) D
  have h3:D * (2 * (V / 2 ^ (i + 1) / D)) = 2 * (D * (V / 2 ^ (i + 1) / D)):=by rw [← Nat.mul_assoc,Nat.mul_comm D 2,Nat.mul_assoc]
  rw [h3]
  unfold bitN at hr
  rw [← e1] at h1
  omega
 have e3:=(Nat.div_mod_unique hD).2 ⟨(Nat.add_comm r _).trans e2.symm,h⟩
 refine ⟨e3.2,?_⟩
 rw [e3.1,Nat.pow_succ,Nat.mul_comm 2,Nat.mul_assoc,Nat.mul_comm 2]

theorem dm_more {V D i r:Nat} (hD:0 < D) (hr:r + D = 2 * (V / 2 ^ (i + 1) % D) + bitN V i):V / 2 ^ i % D = r ∧ V / 2 ^ i / D * 2 ^ i = V / 2 ^ (i + 1) / D * 2 ^ (i + 1) + 2 ^ i:=by
 have e1:V / 2 ^ (i + 1) = V / 2 ^ i / 2:=by rw [Nat.pow_succ,Nat.div_div_eq_div_mul]
 have hb:=bitN_lt V i
 have hm:=Nat.mod_lt (V / 2 ^ (i + 1)) hD
 have e2:V / 2 ^ i = D * (2 * (V / 2 ^ (i + 1) / D) + 1) + r:=by
  have h1:=Nat.div_add_mod (V / 2 ^ i) 2
  have h2:=Nat.div_add_mod (V / 2 ^ (i + 1)) D
  have h3:D * (2 * (V / 2 ^ (i + 1) / D) + 1) = 2 * (D * (V / 2 ^ (i + 1) / D)) + D:=by rw [Nat.mul_add,← Nat.mul_assoc,Nat.mul_comm D 2,Nat.mul_assoc,Nat.mul_one]
  rw [h3]
  unfold bitN at hr
  rw [← e1] at h1
  omega
 have e3:=(Nat.div_mod_unique hD).2 ⟨(Nat.add_comm r _).trans e2.symm,(by omega:r < D)⟩
 refine ⟨e3.2,?_⟩
 rw [e3.1,Nat.add_mul,Nat.one_mul,Nat.pow_succ,Nat.mul_comm 2,Nat.mul_assoc,Nat.mul_comm 2]

theorem valF_put {f:Nat → Nat} {l d:Nat}:∀ {n:Nat},l < n → valF (fun i => if i = l then f l + d else f i) n = valF f n + 4294967296 ^ l * d
 | 0,h => by omega
 | n + 1,h => by
  simp only [valF]
  by_cases e:n = l
  ·subst e
   rw [valF_congr (g:=f) (fun i hi => by rw [if_neg (by omega)])]
   simp only [if_true,Nat.mul_add]
   omega
  ·rw [valF_put (n:=n) (by omega),if_neg e]
   omega

theorem limb_low {f:Nat → Nat} {n l s M:Nat} (ok:∀ i,i < n → f i < 4294967296) (hl:l < n) (hs:s < 32) (hv:valF f n = M * 2 ^ (32 * l + s + 1)):f l % 2 ^ (s + 1) = 0:=by
 have h1:f l = valF f n / 4294967296 ^ l % 4294967296:=by
  have:=val_drop (lst_ok ok) l
  rw [lst_val] at this
  rw [← this,val_drop_step,lst_getD f n l hl]
  have:=ok l hl
  omega
 rw [h1,hv,pow_limb,Nat.add_assoc,Nat.pow_add,Nat.mul_comm (2 ^ (32 * l)),← Nat.mul_assoc,Nat.mul_div_cancel _ (Nat.two_pow_pos _),show (4294967296:Nat) = 2 ^ (s + 1) * 2 ^ (31 - s) from by rw [← Nat.pow_add]; rw [show s + 1 + (31 - s) = 32 from by omega],Nat.mod_mul_right_mod]
 exact Nat.mul_mod_left _ _

theorem or_bit {x s:Nat} (hx:x < 4294967296) (hs:s < 32) (h:x % 2 ^ (s + 1) = 0):bits .or .u32 (x:Int) ((2 ^ s:Nat):Int) = ((x + 2 ^ s:Nat):Int) ∧ x + 2 ^ s < 4294967296:=by
 have hp:=(pow_s hs)
 have h2:2 ^ s < 4294967296:=by have:=Nat.pow_lt_pow_right (a:=2) (by decide) hs; omega
 have e:x = x / 2 ^ (s + 1) * 2 ^ (s + 1):=by have:=Nat.div_add_mod x (2 ^ (s + 1)); rw [h,Nat.add_zero,Nat.mul_comm] at this; exact this.symm
 have e2:x ||| 2 ^ s = x + 2 ^ s:=by
  rw [e]
  have:=Nat.shiftLeft_add_eq_or_of_lt (i:=s + 1) (b:=2 ^ s) (Nat.pow_lt_pow_right (by decide) (by omega)) (x / 2 ^ (s + 1))
  rw [Nat.shiftLeft_eq] at this
  exact this.symm
 refine ⟨by rw [u32_or_nat _ _ hx h2,e2],?_⟩
 rw [← e2]
 exact Nat.or_lt_two_pow (n:=32) hx h2

structure DmR (wr w:World) (bq n1 br n2 V D i:Nat) (f g:Nat → Nat):Prop where
 q:Fn wr bq 0 n1 f
 qok:∀ j,j < n1 → f j < 4294967296
 qv:valF f n1 = V / 2 ^ i / D * 2 ^ i
 r:Fn wr br 0 (n2 + 1) g
 rok:∀ j,j < n2 + 1 → g j < 4294967296
 rv:valF g (n2 + 1) = V / 2 ^ i % D
 bel:Below w.heap.size w wr

theorem twice_val {g g':Nat → Nat} {n c V D bit:Nat} (h:valF g' (n + 1) + 4294967296 ^ (n + 1) * c = 2 * valF g (n + 1) + bit) (hg:valF g (n + 1) < D) (hD:D ≤ 4294967296 ^ n) (hb:bit < 2):valF g' (n + 1) = 2 * valF g (n + 1) + bit:=by
 rcases Nat.eq_zero_or_pos c with h0 | h0
 ·rw [h0,Nat.mul_zero] at h; omega
 ·have h1:4294967296 ^ (n + 1) * 1 ≤ 4294967296 ^ (n + 1) * c:=Nat.mul_le_mul_left _ h0
  have h2:4294967296 ^ (n + 1) = 4294967296 ^ n * 4294967296:=Nat.pow_succ ..
  omega

theorem bits_top {xs:List Nat} {n:Nat} (ox:Ok xs) (nx:Norm xs) (h0:xs ≠ []) (hl:xs.length = n):bitsN xs ≤ 32 * n ∧ 1 ≤ bitsN xs ∧ 2 ^ (bitsN xs - 1) ≤ val xs:=by
 have h:=val_ge_bits ox nx h0
 have e:bitsN xs = bitsL xs:=by unfold bitsN; rw [if_neg h0]
 rw [e]
 refine ⟨?_,h.1,h.2⟩
 have h1:=val_lt ox
 rw [hl,pow_limb] at h1
 have h2:2 ^ (bitsL xs - 1) < 2 ^ (32 * n):=Nat.lt_of_le_of_lt h.2 h1
 have:=(Nat.pow_lt_pow_iff_right (by decide:1 < 2)).1 h2
 omega

theorem DmR.less {wr w w5:World} {bq n1 br n2 V D i:Nat} {f g g':Nat → Nat} {c:Nat} (h:DmR wr w bq n1 br n2 V D (i + 1) f g) (t:TwR w5 wr br (n2 + 1) g (bitN V i) (n2 + 1) c g') (hD:0 < D) (hD2:D ≤ 4294967296 ^ n2) (hne:bq ≠ br) (hbr:w.heap.size ≤ br) (hl:valF g' (n2 + 1) < D) (k:Nat):DmR (w5.drewN k) w bq n1 br n2 V D i f g':=by
 have hv:=twice_val (V:=V) t.val (by rw [h.rv]; exact Nat.mod_lt _ hD) hD2 (bitN_lt _ _)
 rw [h.rv] at hv
 have e:=dm_less hD hv hl
 have u:=t.upd
 exact ⟨u.fn h.q (.inl hne),h.qok,by rw [h.qv,e.2],t.fn,t.ok,e.1.symm,bel_drewN (h.bel.trans (u.below hbr h.bel.size)) k⟩

theorem DmR.more {wr w w5 w6:World} {bq n1 br n2 V D i:Nat} {f g g' g2:Nat → Nat} {c:Nat} (h:DmR wr w bq n1 br n2 V D (i + 1) f g) (t:TwR w5 wr br (n2 + 1) g (bitN V i) (n2 + 1) c g') (hD:0 < D) (hD2:D ≤ 4294967296 ^ n2) (hne:bq ≠ br) (hbr:w.heap.size ≤ br) (hbq:w.heap.size ≤ bq) (f2:Fn w6 br 0 (n2 + 1) g2) (o2:∀ j,j < n2 + 1 → g2 j < 4294967296) (v2:valF g2 (n2 + 1) + D = valF g' (n2 + 1)) (u2:Upd br 0 (n2 + 1) w5 w6) {l s:Nat} (hi:i = 32 * l + s) (hs:s < 32) (hl:l < n1) :
  f l % 2 ^ (s + 1) = 0 ∧ Fn w6 bq 0 n1 f ∧ DmR (w6.setCell ⟨bq,0 + l,none⟩ (.int .u32 (f l + 2 ^ s:Nat))) w bq n1 br n2 V D i (fun j => if j = l then f l + 2 ^ s else f j) g2:=by
 have hv:=twice_val (V:=V) t.val (by rw [h.rv]; exact Nat.mod_lt _ hD) hD2 (bitN_lt _ _)
 rw [h.rv,← v2] at hv
 have e:=dm_more hD hv
 have u:=t.upd.trans u2
 have h0:f l % 2 ^ (s + 1) = 0:=limb_low h.qok hl hs (by rw [h.qv,hi])
 have hq:=u.fn h.q (.inl hne)
 have hx:=(or_bit (h.qok l hl) hs h0).2
 refine ⟨h0,hq,hq.set l _ hl,?_,?_,?_,o2,e.1.symm,?_⟩
 ·intro j hj
  by_cases k:j = l
  ·simp only [k,if_true]; exact hx
  ·simp only [k,if_false]; exact h.qok j hj
 ·rw [valF_put hl,h.qv,e.2,pow_limb,← Nat.pow_add,← hi]
 ·exact ((Upd.refl bq 0 n1 w6).set (0 + l) (.int .u32 (f l + 2 ^ s:Nat)) (by omega) (by omega)).fn f2 (.inl (Ne.symm hne))
 ·exact (h.bel.trans (u.below hbr h.bel.size)).trans ((((Upd.refl bq 0 n1 w6).set (0 + l) (.int .u32 (f l + 2 ^ s:Nat)) (by omega) (by omega))).below hbq (Nat.le_trans h.bel.size (u.below hbr h.bel.size).size))

def Res4w (w w':World) (r:List Nat × List Nat × Int) (e:Ending):Prop :=
 ∃ aq mq cq ar mr cr,e = .returned (.tuple #[.slice aq mq cq,.slice ar mr cr,.int .i64 r.2.2]) ∧ Sl w' aq mq cq r.1 ∧ NewAt w.heap.size aq ∧ Sl w' ar mr cr r.2.1 ∧ NewAt w.heap.size ar ∧ Below w.heap.size w w'
theorem limbs_mono {a b:Nat} (h:a ≤ b):(limbs a).length ≤ (limbs b).length:=limbs_len (Nat.lt_of_le_of_lt h (limbs_lt b))
theorem Fn.chgW {S:Nat → Prop} {w w':World} {b off n:Nat} {f:Nat → Nat} (h:Fn w b off n f) (k:Chg S w w') (hs:¬ S b):Fn w' b off n f:=by
 intro i hi
 have:=h i hi
 have hlt:=World.block_lt_of_cell? _ _ this.1
 exact ⟨k.cell hs this.1,by rw [World.frozen?_of_block (w:=w) (k.block b hlt hs)]; exact this.2⟩

structure DwR (wr w:World) (nq A D k:Nat) (f:Nat → Nat) (a:Option Addr) (m c R:Nat):Prop where
 q:Fn wr w.heap.size 0 nq f
 qok:∀ j,j < nq → f j < 4294967296
 qv:valF f nq = A / 2 ^ k / D * 2 ^ k
 r:Ow wr (w.heap.size + 1) a m c (limbs R)
 bel:Below w.heap.size w wr

theorem DwR.less {wr w wd:World} {nq A D i:Nat} {f:Nat → Nat} {a a':Option Addr} {m c m' c' R T:Nat} (h:DwR wr w nq A D (i + 1) f a m c R) (hc:Chg (fun k => AtB a k) wr wd) (hO:Ow wd (w.heap.size + 1) a' m' c' (limbs T)) (hT:T = 2 * (A / 2 ^ (i + 1) % D) + bitN A i) (hD:0 < D) (hlt:T < D) (j:Nat) :
  DwR (wd.drewN j) w nq A D i f a' m' c' T:=by
 have e:=dm_less hD hT hlt
 have hne:¬ AtB a w.heap.size:=fun hk => by have:=(h.r.lt hk).1; omega
 refine ⟨h.q.chgW (hc.trans (Chg.of_drewN _ j)) hne,h.qok,by rw [h.qv,e.2],hO.below (bel_drewN (Below.refl _ _) j),bel_drewN (h.bel.trans (hc.below h.bel.size (fun k hk hh => by have:=(h.r.lt hh).1; omega))) j⟩

theorem DwR.more {wr w wd w6:World} {nq A D i:Nat} {f:Nat → Nat} {a a':Option Addr} {m c m' c' R T m6:Nat} (h:DwR wr w nq A D (i + 1) f a m c R) (hc:Chg (fun k => AtB a k) wr wd) (hO:Ow wd (w.heap.size + 1) a' m' c' (limbs T)) (hT:T = 2 * (A / 2 ^ (i + 1) % D) + bitN A i) (hD:0 < D) (hge:D ≤ T) (j:Nat)
  (hO6:Ow w6 (w.heap.size + 1) a' m6 c' (limbs (T - D))) (hc6:Chg (fun k => AtB a' k) (wd.drewN j) w6) {l s:Nat} (hi:i = 32 * l + s) (hs:s < 32) (hl:l < nq) (h0:f l % 2 ^ (s + 1) = 0) :
  DwR (w6.setCell ⟨w.heap.size,l,none⟩ (.int .u32 (f l + 2 ^ s:Nat))) w nq A D i (fun j => if j = l then f l + 2 ^ s else f j) a' m6 c' (T - D):=by
 have e:=dm_more (V:=A) (D:=D) (i:=i) (r:=T - D) hD (by omega)
 have hne:¬ AtB a w.heap.size:=fun hk => by have:=(h.r.lt hk).1; omega
 have hne':¬ AtB a' w.heap.size:=fun hk => by have:=(hO.lt hk).1; omega
 have k6:Chg (fun k => AtB a' k) wd w6:=(Chg.of_drewN (S:=fun k => AtB a' k) wd j).trans hc6
 have hb1:Below w.heap.size w wd:=h.bel.trans (hc.below h.bel.size (fun k hk hh => by have:=(h.r.lt hh).1; omega))
 have hb2:Below w.heap.size w w6:=hb1.trans (k6.below hb1.size (fun k hk hh => by have:=(hO.lt hh).1; omega))
 have hq:=((h.q.chgW hc hne).chgW k6 hne').set l (f l + 2 ^ s) hl
 rw [Nat.zero_add] at hq
 have hx:=(or_bit (h.qok l hl) hs h0).2
 refine ⟨hq,?_,?_,hO6.chg (.of_set (S:=fun k => k = w.heap.size) _ _ _ _ rfl) (fun k hk hh => by subst hh; exact hne' hk),hb2.setCell (Nat.le_refl _) _⟩
 ·intro j hj
  by_cases k:j = l
  ·simp only [k,if_true]; exact hx
  ·simp only [k,if_false]; exact h.qok j hj
 ·rw [valF_put hl,h.qv,e.2,pow_limb,← Nat.pow_add,← hi]
structure MvR (wr w:World) (B g n cp:Nat) (xs:List Nat) (k:Nat):Prop where
 own:Ow wr B (some ⟨g,0,none⟩) n cp ((xs.drop 1).take k ++ xs.drop k)
 chg:Chg (fun j => AtB (some ⟨g,0,none⟩) j) w wr

theorem mv_len {xs:List Nat} {k n:Nat} (hl:xs.length = n) (hk:k + 1 ≤ n):((xs.drop 1).take k).length = k:=by simp [hl]; omega
theorem MvR.step {wr w:World} {B g n cp:Nat} {xs:List Nat} {k:Nat} (h:MvR wr w B g n cp xs k) (hl:xs.length = n) (hk:k + 1 < n) :
  MvR (wr.setCell ⟨g,k,none⟩ (.int .u32 (xs.getD (k + 1) 0:Nat))) w B g n cp xs (k + 1):=by
 refine ⟨?_,h.chg.trans (.of_set _ _ _ _ atB_some)⟩
 have:=h.own.set k (xs.getD (k + 1) 0)
 rw [set_mid (mv_len hl (by omega)) hl (by omega)] at this
 have e:(xs.drop 1).take k ++ [xs.getD (k + 1) 0] = (xs.drop 1).take (k + 1):=by
  rw [List.take_succ_eq_append_getElem (by simp; omega)]
  simp [List.getD,show k + 1 < xs.length from by omega]
 rw [e] at this
 exact this
theorem MvR.fin {wr w:World} {B g n cp v:Nat} {k:Nat} (h:MvR wr w B g n cp (limbs v) k) (hl:(limbs v).length = n) (hk:k + 1 = n) :
  Ow wr B (some ⟨g,0,none⟩) (n - 1) cp (limbs (v / 4294967296)):=by
 have h1:=h.own.take (m:=n - 1) (by omega)
 have e1:=mv_len hl (k:=k) (by omega)
 rw [List.take_append_of_le_length (by omega),List.take_of_length_le (by omega)] at h1
 have e2:((limbs v).drop 1).take k = (limbs v).drop 1:=List.take_of_length_le (by simp; omega)
 rw [e2] at h1
 have e3:(limbs v).drop 1 = limbs (v / 4294967296):=by
  have hv:=val_drop (limbs_ok v) 1
  rw [limbs_v,Nat.pow_one] at hv
  have nn:Norm ((limbs v).drop 1):=by
   have:=limbs_norm v
   cases hh:limbs v with
   | nil => left; rfl
   | cons x xs => rw [hh] at this; simpa using norm_tail this
  rw [← hv]
  exact (limbs_val ((limbs_ok v).drop 1) nn).symm
 rw [← e3]
 exact h1

structure MbR (wr w:World) (B g n cp:Nat) (xs:List Nat) (s k:Nat):Prop where
 own:Ow wr B (some ⟨g,0,none⟩) n cp (lst (shF xs 0 s) k ++ xs.drop k)
 chg:Chg (fun j => AtB (some ⟨g,0,none⟩) j) w wr
theorem MbR.step {wr w:World} {B g n cp:Nat} {xs:List Nat} {s k:Nat} (h:MbR wr w B g n cp xs s k) (hl:xs.length = n) (hk:k < n) :
  MbR (wr.setCell ⟨g,k,none⟩ (.int .u32 (srd (xs.getD k 0) (xs.getD (k + 1) 0) s:Nat))) w B g n cp xs s (k + 1):=by
 refine ⟨?_,h.chg.trans (.of_set _ _ _ _ atB_some)⟩
 have:=h.own.set k (srd (xs.getD k 0) (xs.getD (k + 1) 0) s)
 rw [set_mid (lst_len _ _) hl hk] at this
 have e:lst (shF xs 0 s) k ++ [srd (xs.getD k 0) (xs.getD (k + 1) 0) s] = lst (shF xs 0 s) (k + 1):=by
  simp [lst,List.range_succ,shF]
 rw [e] at this
 exact this
structure StrP (w w':World) (B:Nat) (a:Option Addr) (cp v m k u:Nat):Prop where
 own:Ow w' B a m cp (limbs u)
 eq:v = u * 2 ^ k
 odd:u % 2 = 1
 chg:Chg (fun j => AtB a j) w w'
end Go.Proofs.YtlolnaegfponeaaGreatDoor
