/- Rd3 -/
import Derived.Test.YtpbcnkcnjnefiaaGreatDoorDv4
import Derived.Test.YtpbcnkcnjnefiaaGreatDoorDv7
import Derived.Test.YtpbcnkcnjnefiaaGreatDoorPa2
import Derived.Test.YtpbcnkcnjnefiaaGreatDoorPr3
import Derived.Test.YtpbcnkcnjnefiaaGreatDoorBase
import Derived.Test.YtpbcnkcnjnefiaaGreatDoorKarP
import Derived.Test.YtpbcnkcnjnefiaaGreatDoorShr
namespace Go.Proofs.YtpbcnkcnjnefiaaGreatDoor
open Go.RowKit Go.Deep
set_option linter.unusedVariables false
theorem dm_less {V D i r:Nat} (hD:0 < D) (hr:r = 2 * (V / 2 ^ (i + 1) % D) + bitN V i) (h:r < D):V / 2 ^ i % D = r ∧ V / 2 ^ i / D * 2 ^ i = V / 2 ^ (i + 1) / D * 2 ^ (i + 1):=by
 have e1:V / 2 ^ (i + 1) = V / 2 ^ i / 2:=by rw [Nat.pow_succ,Nat.div_div_eq_div_mul]
 have e2:V / 2 ^ i = D * (2 * (V / 2 ^ (i + 1) / D)) + r:=by
  have h1:=Nat.div_add_mod (V / 2 ^ i) 2
  have h2:=Nat.div_add_mod (V / 2 ^ (i + 1)) D
  have h3:D * (2 * (V / 2 ^ (i + 1) / D)) = 2 * (D * (V / 2 ^ (i + 1) / D)):=by rw [← Nat.mul_assoc,Nat.mul_comm D 2,Nat.mul_assoc]
  rw [h3]
  unfold bitN at hr
  rw [← e1] at h1
  omega
 have e3:=(Nat.div_mod_unique hD).2 ⟨(Nat.add_comm r _).trans e2.symm,h⟩
 refine ⟨e3.2,?_⟩
 rw [e3.1,Nat.pow_succ,Nat.mul_comm 2,Nat.mul_assoc,Nat.mul_comm 2]

theorem dm_more {V D i r:Nat} (hD:0 < D) (hr:r + D = 2 * (V / 2 ^ (i + 1) % D) + bitN V i):V / 2 ^ i % D = r ∧ V / 2 ^ i / D * 2 ^ i = V / 2 ^ (i + 1) / D * 2 ^ (i + 1) + 2 ^ i:=by
 have e1:V / 2 ^ (i + 1) = V / 2 ^ i / 2:=by rw [Nat.pow_succ,Nat.div_div_eq_div_mul]
 have hb:=bitN_lt V i
 have hm:=Nat.mod_lt (V / 2 ^ (i + 1)) hD
 have e2:V / 2 ^ i = D * (2 * (V / 2 ^ (i + 1) / D) + 1) + r:=by
  have h1:=Nat.div_add_mod (V / 2 ^ i) 2
  have h2:=Nat.div_add_mod (V / 2 ^ (i + 1)) D
  have h3:D * (2 * (V / 2 ^ (i + 1) / D) + 1) = 2 * (D * (V / 2 ^ (i + 1) / D)) + D:=by rw [Nat.mul_add,← Nat.mul_assoc,Nat.mul_comm D 2,Nat.mul_assoc,Nat.mul_one]
  rw [h3]
  unfold bitN at hr
  rw [← e1] at h1
  omega
 have e3:=(Nat.div_mod_unique hD).2 ⟨(Nat.add_comm r _).trans e2.symm,(by omega:r < D)⟩
 refine ⟨e3.2,?_⟩
 rw [e3.1,Nat.add_mul,Nat.one_mul,Nat.pow_succ,Nat.mul_comm 2,Nat.mul_assoc,Nat.mul_comm 2]

theorem valF_put {f:Nat → Nat} {l d:Nat}:∀ {n:Nat},l < n → valF (fun i => if i = l then f l + d else f i) n = valF f n + 4294967296 ^ l * d
 | 0,h => by omega
 | n + 1,h => by
  simp only [valF]
  by_cases e:n = l
  ·subst e
   rw [valF_congr (g:=f) (fun i hi => by rw [if_neg (by omega)])]
   simp only [if_true,Nat.mul_add]
   omega
  ·rw [valF_put (n:=n) (by omega),if_neg e]
   omega

theorem limb_low {f:Nat → Nat} {n l s M:Nat} (ok:∀ i,i < n → f i < 4294967296) (hl:l < n) (hs:s < 32) (hv:valF f n = M * 2 ^ (32 * l + s + 1)):f l % 2 ^ (s + 1) = 0:=by
 have h1:f l = valF f n / 4294967296 ^ l % 4294967296:=by
  have:=val_drop (lst_ok ok) l
  rw [lst_val] at this
  rw [← this,val_drop_step,lst_getD f n l hl]
  have:=ok l hl
  omega
 rw [h1,hv,pow_limb,Nat.add_assoc,Nat.pow_add,Nat.mul_comm (2 ^ (32 * l)),← Nat.mul_assoc,Nat.mul_div_cancel _ (Nat.two_pow_pos _),show (4294967296:Nat) = 2 ^ (s + 1) * 2 ^ (31 - s) from by rw [← Nat.pow_add]; rw [show s + 1 + (31 - s) = 32 from by omega],Nat.mod_mul_right_mod]
 exact Nat.mul_mod_left _ _

theorem or_bit {x s:Nat} (hx:x < 4294967296) (hs:s < 32) (h:x % 2 ^ (s + 1) = 0):bits .or .u32 (x:Int) ((2 ^ s:Nat):Int) = ((x + 2 ^ s:Nat):Int) ∧ x + 2 ^ s < 4294967296:=by
 have hp:=(pow_s hs)
 have h2:2 ^ s < 4294967296:=by have:=Nat.pow_lt_pow_right (a:=2) (by decide) hs; omega
 have e:x = x / 2 ^ (s + 1) * 2 ^ (s + 1):=by have:=Nat.div_add_mod x (2 ^ (s + 1)); rw [h,Nat.add_zero,Nat.mul_comm] at this; exact this.symm
 have e2:x ||| 2 ^ s = x + 2 ^ s:=by
  rw [e]
  have:=Nat.shiftLeft_add_eq_or_of_lt (i:=s + 1) (b:=2 ^ s) (Nat.pow_lt_pow_right (by decide) (by omega)) (x / 2 ^ (s + 1))
  rw [Nat.shiftLeft_eq] at this
  exact this.symm
 refine ⟨by rw [u32_or_nat _ _ hx h2,e2],?_⟩
 rw [← e2]
 exact Nat.or_lt_two_pow (n:=32) hx h2

structure DmR (wr w:World) (bq n1 br n2 V D i:Nat) (f g:Nat → Nat):Prop where
 q:Fn wr bq 0 n1 f
 qok:∀ j,j < n1 → f j < 4294967296
 qv:valF f n1 = V / 2 ^ i / D * 2 ^ i
 r:Fn wr br 0 (n2 + 1) g
 rok:∀ j,j < n2 + 1 → g j < 4294967296
 rv:valF g (n2 + 1) = V / 2 ^ i % D
 bel:Below w.heap.size w wr

theorem twice_val {g g':Nat → Nat} {n c V D bit:Nat} (h:valF g' (n + 1) + 4294967296 ^ (n + 1) * c = 2 * valF g (n + 1) + bit) (hg:valF g (n + 1) < D) (hD:D ≤ 4294967296 ^ n) (hb:bit < 2):valF g' (n + 1) = 2 * valF g (n + 1) + bit:=by
 rcases Nat.eq_zero_or_pos c with h0 | h0
 ·rw [h0,Nat.mul_zero] at h; omega
 ·have h1:4294967296 ^ (n + 1) * 1 ≤ 4294967296 ^ (n + 1) * c:=Nat.mul_le_mul_left _ h0
  have h2:4294967296 ^ (n + 1) = 4294967296 ^ n * 4294967296:=Nat.pow_succ ..
  omega

theorem bits_top {xs:List Nat} {n:Nat} (ox:Ok xs) (nx:Norm xs) (h0:xs ≠ []) (hl:xs.length = n):bitsN xs ≤ 32 * n ∧ 1 ≤ bitsN xs ∧ 2 ^ (bitsN xs - 1) ≤ val xs:=by
 have h:=val_ge_bits ox nx h0
 have e:bitsN xs = bitsL xs:=by unfold bitsN; rw [if_neg h0]
 rw [e]
 refine ⟨?_,h.1,h.2⟩
 have h1:=val_lt ox
 rw [hl,pow_limb] at h1
 have h2:2 ^ (bitsL xs - 1) < 2 ^ (32 * n):=Nat.lt_of_le_of_lt h.2 h1
 have:=(Nat.pow_lt_pow_iff_right (by decide:1 < 2)).1 h2
 omega

theorem DmR.less {wr w w5:World} {bq n1 br n2 V D i:Nat} {f g g':Nat → Nat} {c:Nat} (h:DmR wr w bq n1 br n2 V D (i + 1) f g) (t:TwR w5 wr br (n2 + 1) g (bitN V i) (n2 + 1) c g') (hD:0 < D) (hD2:D ≤ 4294967296 ^ n2) (hne:bq ≠ br) (hbr:w.heap.size ≤ br) (hl:valF g' (n2 + 1) < D) (k:Nat):DmR (w5.drewN k) w bq n1 br n2 V D i f g':=by
 have hv:=twice_val (V:=V) t.val (by rw [h.rv]; exact Nat.mod_lt _ hD) hD2 (bitN_lt _ _)
 rw [h.rv] at hv
 have e:=dm_less hD hv hl
 have u:=t.upd
 exact ⟨u.fn h.q (.inl hne),h.qok,by rw [h.qv,e.2],t.fn,t.ok,e.1.symm,bel_drewN (h.bel.trans (u.below hbr h.bel.size)) k⟩

theorem DmR.more {wr w w5 w6:World} {bq n1 br n2 V D i:Nat} {f g g' g2:Nat → Nat} {c:Nat} (h:DmR wr w bq n1 br n2 V D (i + 1) f g) (t:TwR w5 wr br (n2 + 1) g (bitN V i) (n2 + 1) c g') (hD:0 < D) (hD2:D ≤ 4294967296 ^ n2) (hne:bq ≠ br) (hbr:w.heap.size ≤ br) (hbq:w.heap.size ≤ bq) (f2:Fn w6 br 0 (n2 + 1) g2) (o2:∀ j,j < n2 + 1 → g2 j < 4294967296) (v2:valF g2 (n2 + 1) + D = valF g' (n2 + 1)) (u2:Upd br 0 (n2 + 1) w5 w6) {l s:Nat} (hi:i = 32 * l + s) (hs:s < 32) (hl:l < n1) :
  f l % 2 ^ (s + 1) = 0 ∧ Fn w6 bq 0 n1 f ∧ DmR (w6.setCell ⟨bq,0 + l,none⟩ (.int .u32 (f l + 2 ^ s:Nat))) w bq n1 br n2 V D i (fun j => if j = l then f l + 2 ^ s else f j) g2:=by
 have hv:=twice_val (V:=V) t.val (by rw [h.rv]; exact Nat.mod_lt _ hD) hD2 (bitN_lt _ _)
 rw [h.rv,← v2] at hv
 have e:=dm_more hD hv
 have u:=t.upd.trans u2
 have h0:f l % 2 ^ (s + 1) = 0:=limb_low h.qok hl hs (by rw [h.qv,hi])
 have hq:=u.fn h.q (.inl hne)
 have hx:=(or_bit (h.qok l hl) hs h0).2
 refine ⟨h0,hq,hq.set l _ hl,?_,?_,?_,o2,e.1.symm,?_⟩
 ·intro j hj
  by_cases k:j = l
  ·simp only [k,if_true]; exact hx
  ·simp only [k,if_false]; exact h.qok j hj
 ·rw [valF_put hl,h.qv,e.2,pow_limb,← Nat.pow_add,← hi]
 ·exact ((Upd.refl bq 0 n1 w6).set (0 + l) (.int .u32 (f l + 2 ^ s:Nat)) (by omega) (by omega)).fn f2 (.inl (Ne.symm hne))
 ·exact (h.bel.trans (u.below hbr h.bel.size)).trans ((((Upd.refl bq 0 n1 w6).set (0 + l) (.int .u32 (f l + 2 ^ s:Nat)) (by omega) (by omega))).below hbq (Nat.le_trans h.bel.size (u.below hbr h.bel.size).size))

def Res4w (w w':World) (r:List Nat × List Nat × Int) (e:Ending):Prop :=
 ∃ aq mq cq ar mr cr,e = .returned (.tuple #[.slice aq mq cq,.slice ar mr cr,.int .i64 r.2.2]) ∧ Sl w' aq mq cq r.1 ∧ NewAt w.heap.size aq ∧ Sl w' ar mr cr r.2.1 ∧ NewAt w.heap.size ar ∧ Below w.heap.size w w'
theorem limbs_mono {a b:Nat} (h:a ≤ b):(limbs a).length ≤ (limbs b).length:=limbs_len (Nat.lt_of_le_of_lt h (limbs_lt b))
theorem Fn.chgW {S:Nat → Prop} {w w':World} {b off n:Nat} {f:Nat → Nat} (h:Fn w b off n f) (k:Chg S w w') (hs:¬ S b):Fn w' b off n f:=by
 intro i hi
 have:=h i hi
 have hlt:=World.block_lt_of_cell? _ _ this.1
 exact ⟨k.cell hs this.1,by rw [World.frozen?_of_block (w:=w) (k.block b hlt hs)]; exact this.2⟩

structure DwR (wr w:World) (nq A D k:Nat) (f:Nat → Nat) (a:Option Addr) (m c R:Nat):Prop where
 q:Fn wr w.heap.size 0 nq f
 qok:∀ j,j < nq → f j < 4294967296
 qv:valF f nq = A / 2 ^ k / D * 2 ^ k
 r:Ow wr (w.heap.size + 1) a m c (limbs R)
 bel:Below w.heap.size w wr

theorem DwR.less {wr w wd:World} {nq A D i:Nat} {f:Nat → Nat} {a a':Option Addr} {m c m' c' R T:Nat} (h:DwR wr w nq A D (i + 1) f a m c R) (hc:Chg (fun k => AtB a k) wr wd) (hO:Ow wd (w.heap.size + 1) a' m' c' (limbs T)) (hT:T = 2 * (A / 2 ^ (i + 1) % D) + bitN A i) (hD:0 < D) (hlt:T < D) (j:Nat) :
  DwR (wd.drewN j) w nq A D i f a' m' c' T:=by
 have e:=dm_less hD hT hlt
 have hne:¬ AtB a w.heap.size:=fun hk => by have:=(h.r.lt hk).1; omega
 refine ⟨h.q.chgW (hc.trans (Chg.of_drewN _ j)) hne,h.qok,by rw [h.qv,e.2],hO.below (bel_drewN (Below.refl _ _) j),bel_drewN (h.bel.trans (hc.below h.bel.size (fun k hk hh => by have:=(h.r.lt hh).1; omega))) j⟩

theorem DwR.more {wr w wd w6:World} {nq A D i:Nat} {f:Nat → Nat} {a a':Option Addr} {m c m' c' R T m6:Nat} (h:DwR wr w nq A D (i + 1) f a m c R) (hc:Chg (fun k => AtB a k) wr wd) (hO:Ow wd (w.heap.size + 1) a' m' c' (limbs T)) (hT:T = 2 * (A / 2 ^ (i + 1) % D) + bitN A i) (hD:0 < D) (hge:D ≤ T) (j:Nat)
  (hO6:Ow w6 (w.heap.size + 1) a' m6 c' (limbs (T - D))) (hc6:Chg (fun k => AtB a' k) (wd.drewN j) w6) {l s:Nat} (hi:i = 32 * l + s) (hs:s < 32) (hl:l < nq) (h0:f l % 2 ^ (s + 1) = 0) :
  DwR (w6.setCell ⟨w.heap.size,l,none⟩ (.int .u32 (f l + 2 ^ s:Nat))) w nq A D i (fun j => if j = l then f l + 2 ^ s else f j) a' m6 c' (T - D):=by
 have e:=dm_more (V:=A) (D:=D) (i:=i) (r:=T - D) hD (by omega)
 have hne:¬ AtB a w.heap.size:=fun hk => by have:=(h.r.lt hk).1; omega
 have hne':¬ AtB a' w.heap.size:=fun hk => by have:=(hO.lt hk).1; omega
 have k6:Chg (fun k => AtB a' k) wd w6:=(Chg.of_drewN (S:=fun k => AtB a' k) wd j).trans hc6
 have hb1:Below w.heap.size w wd:=h.bel.trans (hc.below h.bel.size (fun k hk hh => by have:=(h.r.lt hh).1; omega))
 have hb2:Below w.heap.size w w6:=hb1.trans (k6.below hb1.size (fun k hk hh => by have:=(hO.lt hh).1; omega))
 have hq:=((h.q.chgW hc hne).chgW k6 hne').set l (f l + 2 ^ s) hl
 rw [Nat.zero_add] at hq
 have hx:=(or_bit (h.qok l hl) hs h0).2
 refine ⟨hq,?_,?_,hO6.chg (.of_set (S:=fun k => k = w.heap.size) _ _ _ _ rfl) (fun k hk hh => by subst hh; exact hne' hk),hb2.setCell (Nat.le_refl _) _⟩
 ·intro j hj
  by_cases k:j = l
  ·simp only [k,if_true]; exact hx
  ·simp only [k,if_false]; exact h.qok j hj
 ·rw [valF_put hl,h.qv,e.2,pow_limb,← Nat.pow_add,← hi]

theorem ten_lt {v n:Nat} (h:v ≤ 10 ^ n):v < 4294967296 ^ (n + 1):=by
 have h1:10 ^ n ≤ 4294967296 ^ n:=Nat.pow_le_pow_left (by decide) n
 have h2:4294967296 ^ n < 4294967296 ^ (n + 1):=Nat.pow_lt_pow_right (by decide) (Nat.lt_succ_self n)
 omega
theorem ten_len {v n:Nat} (h:v ≤ 10 ^ n):(limbs v).length ≤ n + 1:=limbs_len (ten_lt h)

structure TnR (wr w:World) (n j X Y:Nat) (ax:Option Addr) (mx cx:Nat) (ab:Option Addr) (mb cb:Nat):Prop where
 sx:Sl wr ax mx cx (limbs X)
 sb:Sl wr ab mb cb (limbs Y)
 nx:NewAt w.heap.size ax
 zx:ax = none → cx = 0
 eq:X * Y ^ j = 10 ^ n
 bel:Below w.heap.size w wr
theorem TnR.bx {wr w:World} {n j X Y:Nat} {ax:Option Addr} {mx cx:Nat} {ab:Option Addr} {mb cb:Nat} (h:TnR wr w n j X Y ax mx cx ab mb cb):X ≤ 10 ^ n ∧ (0 < j → X * Y ≤ 10 ^ n ∧ Y ≤ 10 ^ n):=by
 have hp:0 < 10 ^ n:=Nat.pow_pos (by decide)
 have he:=h.eq
 have hX:0 < X:=by
  rcases Nat.eq_zero_or_pos X with e | e
  ·rw [e,Nat.zero_mul] at he; omega
  ·exact e
 have hY:0 < Y ^ j:=by
  rcases Nat.eq_zero_or_pos (Y ^ j) with e | e
  ·rw [e,Nat.mul_zero] at he; omega
  ·exact e
 refine ⟨by rw [← he]; exact Nat.le_mul_of_pos_right _ hY,fun hj => ?_⟩
 have hY0:0 < Y:=by
  rcases Nat.eq_zero_or_pos Y with e | e
  ·rw [e,Nat.zero_pow hj] at hY; omega
  ·exact e
 obtain ⟨i,rfl⟩:∃ i,j = i + 1:=⟨j - 1,by omega⟩
 have h1:X * Y ≤ 10 ^ n:=by
  rw [← he,Nat.pow_succ,Nat.mul_comm (Y ^ i) Y,← Nat.mul_assoc]
  exact Nat.le_mul_of_pos_right _ (Nat.pow_pos hY0)
 exact ⟨h1,Nat.le_trans (Nat.le_mul_of_pos_left _ hX) h1⟩
theorem tz_and:∀ (f x:Nat),0 < x → x < 2 ^ f → x &&& (2 ^ f - x) = 2 ^ Lib.ntzAux f x
 | 0,x,h0,h => by simp at h; omega
 | f + 1,x,h0,h => by
  have hp:2 ^ (f + 1) = 2 * 2 ^ f:=by rw [Nat.pow_succ,Nat.mul_comm]
  have hq:=Nat.two_pow_pos f
  rw [hp] at h ⊢
  have hd:=Nat.div_add_mod (x &&& (2 * 2 ^ f - x)) 2
  have hm:=and_m2 x (2 * 2 ^ f - x)
  rw [Nat.and_div_two] at hd
  simp only [Lib.ntzAux]
  rcases Nat.mod_two_eq_zero_or_one x with e | e
  ·rw [if_neg (by omega)]
   have e1:(2 * 2 ^ f - x) / 2 = 2 ^ f - x / 2:=by omega
   rw [e1,tz_and f (x / 2) (by omega) (by omega)] at hd
   rw [e,Nat.zero_mul] at hm
   rw [show 1 + Lib.ntzAux f (x / 2) = Lib.ntzAux f (x / 2) + 1 from by omega,Nat.pow_succ]
   omega
  ·rw [if_pos e]
   have e1:(2 * 2 ^ f - x) / 2 = 2 ^ f - 1 - x / 2:=by omega
   have e2:(2 * 2 ^ f - x) % 2 = 1:=by omega
   have e3:=and_not_add f (x / 2) (x / 2) (by omega) (by omega)
   rw [Nat.and_self] at e3
   rw [e1] at hd
   rw [e,e2] at hm
   simp only [Nat.pow_zero]
   omega

theorem tz_lt:∀ (f x:Nat),0 < x → x < 2 ^ f → Lib.ntzAux f x < f
 | 0,x,h0,h => by simp at h; omega
 | f + 1,x,h0,h => by
  rw [Nat.pow_succ] at h
  simp only [Lib.ntzAux]
  split
  ·omega
  ·have:=tz_lt f (x / 2) (by omega) (by omega)
   omega

theorem tz_bit:∀ (f x:Nat),0 < x → x < 2 ^ f → x / 2 ^ Lib.ntzAux f x % 2 = 1 ∧ ∀ s,s < Lib.ntzAux f x → x / 2 ^ s % 2 = 0
 | 0,x,h0,h => by simp at h; omega
 | f + 1,x,h0,h => by
  rw [Nat.pow_succ] at h
  simp only [Lib.ntzAux]
  split
  ·rename_i e
   exact ⟨by simpa using e,fun s hs => by omega⟩
  ·rename_i e
   have:=tz_bit f (x / 2) (by omega) (by omega)
   refine ⟨?_,?_⟩
   ·rw [show 1 + Lib.ntzAux f (x / 2) = Lib.ntzAux f (x / 2) + 1 from by omega,Nat.pow_succ,Nat.mul_comm,← Nat.div_div_eq_div_mul]
    exact this.1
   ·intro s hs
    cases s with
    | zero => simp; omega
    | succ s =>
     rw [Nat.pow_succ,Nat.mul_comm,← Nat.div_div_eq_div_mul]
     exact this.2 s (by omega)

def tab32:List Int:=[0,1,28,2,29,14,24,3,30,22,20,15,25,17,4,8,31,27,13,23,21,19,16,7,26,12,18,6,11,5,10,9]
def Tab32 (w:World):Prop:=∀ i:Nat,i < 32 → w.cell? ⟨4,i,none⟩ = some (.int .u8 (tab32.getD i 0))
theorem Tab32.below {w w':World} (h:Tab32 w) (k:Below w.heap.size w w'):Tab32 w':=by
 intro i hi
 have h1:=h i hi
 rw [k.cell (World.block_lt_of_cell? _ _ h1)]
 exact h1

theorem tz_index:∀ k:Fin 32,tab32.getD (2 ^ k.val * 125613361 % 4294967296 / 134217728) 0 = (k.val:Int) ∧ 2 ^ k.val * 125613361 % 4294967296 / 134217728 < 32:=by decide +kernel

def tzN (x:Nat):Nat:=if x = 0 then 32 else Lib.ntzAux 32 x

theorem p32:(2:Nat) ^ 32 = 4294967296:=by decide
theorem neg_nat {x:Nat} (h0:0 < x) (hx:x < 4294967296):∃ nx:Nat,nx < 4294967296 ∧ x + nx = 4294967296 ∧ (-(x:Int)) % 4294967296 = (nx:Int):=⟨4294967296 - x,by omega,by omega,by omega⟩
theorem tz_facts {x:Nat} (h0:0 < x) (hx:x < 4294967296):∃ nx P ix:Nat,(-(x:Int)) % 4294967296 = (nx:Int) ∧ nx < 4294967296 ∧ P < 4294967296 ∧ bits .and .u32 (x:Int) (nx:Int) = (P:Int) ∧ ix < 32 ∧ (P:Int) * 125613361 % 4294967296 / 134217728 = (ix:Int) ∧ tab32.getD ix 0 = ((tzN x:Nat):Int) ∧ tzN x < 32:=by
 have ht:tzN x = Lib.ntzAux 32 x:=by unfold tzN; rw [if_neg (Nat.ne_of_gt h0)]
 obtain ⟨nx,n1,n2,n3⟩:=neg_nat h0 hx
 have hx':x < 2 ^ 32:=by rw [p32]; exact hx
 have hl:=tz_lt 32 x h0 hx'
 have ha:=tz_and 32 x h0 hx'
 have e:2 ^ 32 - x = nx:=by rw [p32]; omega
 rw [e] at ha
 rw [← ht] at hl ha
 have e1:=u32_and_nat x nx hx n1
 rw [ha] at e1
 have hi:=tz_index ⟨tzN x,hl⟩
 have hPb:2 ^ tzN x < 2 ^ 32:=Nat.pow_lt_pow_right (by decide) hl
 rw [p32] at hPb
 refine ⟨nx,2 ^ tzN x,_,n3,n1,hPb,e1,hi.2,?_,hi.1,hl⟩
 simp only [Int.natCast_ediv,Int.natCast_emod,Int.natCast_mul]
 rfl

set_option maxHeartbeats 4000000 in
theorem tz32_any (x:Nat) (w:World) (h0:0 < x) (hx:x < 4294967296) (hT:Tab32 w) :
  Calls Tryz.prog 181 #[.int .u32 (x:Nat)] w fun e w' => e = .returned (.int .i64 (tzN x:Nat)) ∧ w' = w:=by
 obtain ⟨nx,P,ix,e0,hnx,hPb,e1,hi2,e2,e3,hl⟩:=tz_facts h0 hx
 have c1:=hT ix hi2
 rw [e3] at c1
 clear e3 hT
 have t1:((x:Int) == 0) = false:=by simp; omega
 have t2:¬ (x:Int) = 0:=by omega
 generalize tzN x = t at *
 go_enter Tryz.func181,Tryz.ntmps181
 go_wp2
 go_ret
 exact ⟨rfl,rfl⟩
end Go.Proofs.YtpbcnkcnjnefiaaGreatDoor
namespace Go.Proofs.YtpbcnkcnjnefiaaGreatDoor
set_option linter.unusedVariables false
def Dif (o:Bool) (p q A B r:Nat):Prop:=if o then r + q * B = p * A else r + p * A = q * B
theorem dif_true {p q A B r:Nat}:Dif true p q A B r ↔ r + q * B = p * A:=Iff.rfl
theorem dif_false {p q A B r:Nat}:Dif false p q A B r ↔ r + p * A = q * B:=by simp [Dif]

theorem top_mul (K p X α:Nat):p * (K * X + α) = K * (p * X) + p * α:=by rw [Nat.mul_add,← Nat.mul_assoc,Nat.mul_comm p K,Nat.mul_assoc]

theorem dif_top {o:Bool} {p q X Y r A B K α β:Nat} (h:Dif o p q X Y r) (hA:A = K * X + α) (hB:B = K * Y + β) (ha:α < K) (hb:β < K) (hpq:p ≤ q) (hq:q ≤ r):∃ R,Dif o p q A B R ∧ (1 ≤ q → 1 ≤ R):=by
 have h1:K * q ≤ K * r:=Nat.mul_le_mul_left K hq
 have h2:p * α ≤ q * α:=Nat.mul_le_mul_right α hpq
 have h3:q * α ≤ q * K:=Nat.mul_le_mul_left q (Nat.le_of_lt ha)
 have h4:q * β ≤ q * K:=Nat.mul_le_mul_left q (Nat.le_of_lt hb)
 have h5:q * K = K * q:=Nat.mul_comm _ _
 have h6:1 ≤ q → q * α < q * K:=fun h => Nat.mul_lt_mul_of_pos_left ha h
 have h7:1 ≤ q → q * β < q * K:=fun h => Nat.mul_lt_mul_of_pos_left hb h
 subst hA hB
 cases o
 ·rw [dif_false] at h
  have e:K * r + K * (p * X) = K * (q * Y):=by rw [← Nat.mul_add,h]
  refine ⟨K * r + q * β - p * α,?_,?_⟩
  ·rw [dif_false,top_mul,top_mul]; omega
  ·intro h0; have:=h6 h0; omega
 ·rw [dif_true] at h
  have e:K * r + K * (q * Y) = K * (p * X):=by rw [← Nat.mul_add,h]
  refine ⟨K * r + p * α - q * β,?_,?_⟩
  ·rw [dif_true,top_mul,top_mul]; omega
  ·intro h0; have:=h7 h0; omega

theorem dif_sub {o:Bool} {u1 v1 u2 v2 A B r s d:Nat} (h1:Dif o u1 v1 A B r) (h2:Dif (!o) u2 v2 A B s):Dif o (u1 + u2) (v1 + v2) A B d ↔ d + s = r:=by
 cases o
 ·rw [dif_false] at *
  rw [show (!false) = true from rfl,dif_true] at h2
  rw [Nat.add_mul,Nat.add_mul]
  omega
 ·rw [dif_true] at *
  rw [show (!true) = false from rfl,dif_false] at h2
  rw [Nat.add_mul,Nat.add_mul]
  omega

theorem dif_step {o:Bool} {u1 v1 u2 v2 A B x y q z:Nat} (h1:Dif o u1 v1 A B x) (h2:Dif (!o) u2 v2 A B y) (hz:z + q * y = x):Dif o (u1 + q * u2) (v1 + q * v2) A B z:=by
 have e:∀ (p C:Nat),(q * p) * C = q * (p * C):=fun p C => Nat.mul_assoc _ _ _
 cases o
 ·rw [dif_false] at *
  rw [show (!false) = true from rfl,dif_true] at h2
  have e2:q * y + q * (v2 * B) = q * (u2 * A):=by rw [← Nat.mul_add,h2]
  rw [Nat.add_mul,Nat.add_mul,e,e]
  omega
 ·rw [dif_true] at *
  rw [show (!true) = false from rfl,dif_false] at h2
  have e2:q * y + q * (u2 * A) = q * (v2 * B):=by rw [← Nat.mul_add,h2]
  rw [Nat.add_mul,Nat.add_mul,e,e]
  omega

structure Whole (A B:Nat) (o:Bool) (u0 u1 u2 v0 v1 v2 R0 R1 q:Nat):Prop where
 d0:Dif (!o) u0 v0 A B R0
 d1:Dif o u1 v1 A B R1
 lt:R1 < R0
 gcd:Nat.gcd R0 R1 = Nat.gcd A B
 leB:R1 ≤ B
 le0:v0 ≠ 0 → R0 ≤ B
 u2e:u2 = u0 + q * u1
 v2e:v2 = v0 + q * v1

structure Leh (A B X Y:Nat) (o:Bool) (u0 u1 u2 v0 v1 v2 x y:Nat):Prop where
 hx:Dif o u1 v1 X Y x
 hy:Dif (!o) u2 v2 X Y y
 le1:u1 + u2 ≤ v1 + v2
 le2:u2 ≤ v2
 pos:1 ≤ v2
 idn:x * v2 + y * v1 = X
 yx:y ≤ x
 bu0:u0 < 4294967296
 bu1:u1 < 4294967296
 bv0:v0 < 4294967296
 bv1:v1 < 4294967296
 st:(v1 = 0 ∧ v0 = 0 ∧ o = true ∧ u1 = 1 ∧ u2 = 0 ∧ v2 = 1) ∨ (1 ≤ v1 ∧ ∃ R0 R1 q,Whole A B o u0 u1 u2 v0 v1 v2 R0 R1 q)

theorem Leh.start {A B X Y:Nat} (h:Y ≤ X):Leh A B X Y true 0 1 0 0 0 1 X Y :=
 ⟨by rw [dif_true]; simp,by rw [show (!true) = false from rfl,dif_false]; simp,by omega,by omega,by omega,by simp,h,by decide,by decide,by decide,by decide,.inl ⟨rfl,rfl,rfl,rfl,rfl,rfl⟩⟩

theorem sq_lt {v x X:Nat} (h1:v < x) (h2:x * v ≤ X) (h3:X < 18446744073709551616):v < 4294967296:=by
 rcases Nat.lt_or_ge v 4294967296 with h | h
 ·exact h
 ·exfalso
  have:4294967296 * 4294967296 ≤ x * v:=Nat.mul_le_mul (by omega) h
  omega

theorem gcd_step {a b c q:Nat} (h:c + q * b = a):Nat.gcd b c = Nat.gcd a b:=by
 rw [← h,Nat.gcd_comm (c + q * b) b,Nat.mul_comm q b,Nat.gcd_add_mul_left_right]

theorem Leh.step {A B X Y K α β:Nat} {o:Bool} {u0 u1 u2 v0 v1 v2 x y:Nat} (h:Leh A B X Y o u0 u1 u2 v0 v1 v2 x y) (hA:A = K * X + α) (hB:B = K * Y + β) (ha:α < K) (hb:β < K) (hX:X < 18446744073709551616) (hBA:B ≤ A)
  (c1:v2 ≤ y) (c2:v1 + v2 ≤ x - y):Leh A B X Y (!o) u1 u2 (u1 + x / y * u2) v1 v2 (v1 + x / y * v2) y (x - x / y * y):=by
 have hy1:1 ≤ y:=Nat.le_trans h.pos c1
 have hxy:y < x:=by have:=h.pos; omega
 have hdm:=Nat.div_add_mod x y
 have hml:=Nat.mod_lt x hy1
 rw [Nat.mul_comm] at hdm
 have hq1:1 ≤ x / y:=(Nat.le_div_iff_mul_le hy1).2 (by omega)
 have hxv:x * v2 ≤ X:=by have:=h.idn; omega
 have hv2:v2 < 4294967296:=sq_lt (v:=v2) (x:=x) (by omega) hxv hX
 generalize x / y = q at *
 have hz:(x - q * y) + q * y = x:=by omega
 obtain ⟨R2,hR2,hR2p⟩:=dif_top h.hy hA hB ha hb h.le2 c1
 have hdxy:Dif o (u1 + u2) (v1 + v2) X Y (x - y):=(dif_sub h.hx h.hy).2 (by omega)
 obtain ⟨Rd,hRd,hRdp⟩:=dif_top hdxy hA hB ha hb h.le1 c2
 have hRdp':=hRdp (by have:=h.pos; omega)
 have hqv:q * v2 = v2 + (q - 1) * v2:=by
  rw [Nat.sub_mul,Nat.one_mul]
  have:1 * v2 ≤ q * v2:=Nat.mul_le_mul_right v2 hq1
  omega
 have hqu:q * u2 = u2 + (q - 1) * u2:=by
  rw [Nat.sub_mul,Nat.one_mul]
  have:1 * u2 ≤ q * u2:=Nat.mul_le_mul_right u2 hq1
  omega
 have hquv:(q - 1) * u2 ≤ (q - 1) * v2:=Nat.mul_le_mul_left _ h.le2
 refine ⟨h.hy,by rw [Bool.not_not]; exact dif_step h.hx h.hy hz,?_,?_,?_,?_,by omega,h.bu1,by have:=h.le2; omega,h.bv1,hv2,?_⟩
 ·have:=h.le1; have:=h.le2; omega
 ·have:=h.le1; have:=h.le2; omega
 ·have:=h.pos; omega
 ·have e1:y * (v1 + q * v2) + (x - q * y) * v2 = X:=by
   rw [Nat.mul_add,Nat.sub_mul,← Nat.mul_assoc y q,Nat.mul_comm y q]
   have hle:q * y * v2 ≤ x * v2:=Nat.mul_le_mul_right v2 (by omega)
   have:=h.idn
   omega
  exact e1
 ·right
  refine ⟨h.pos,?_⟩
  rcases h.st with ⟨s1,s2,s3,s4,s5,s6⟩ | ⟨s1,R0,R1,q0,W⟩
  ·subst s1 s2 s3 s4 s5 s6
   have hRB:R2 = B:=by rw [show (!true) = false from rfl,dif_false] at hR2; omega
   subst hRB
   have hRA:Dif true 1 0 A R2 A:=by rw [dif_true]; simp
   have hlt:=(dif_sub hRA hR2).1 hRd
   exact ⟨A,R2,q,by rw [Bool.not_not]; exact hRA,hR2,by omega,rfl,Nat.le_refl _,by simp,rfl,rfl⟩
  ·have hlt:=(dif_sub W.d1 hR2).1 hRd
   have hR:R2 + q0 * R1 = R0:=by
    have hz2:∃ z,z + q0 * R1 = R0 ∨ R0 + z = q0 * R1:=by
     rcases Nat.le_total (q0 * R1) R0 with k | k
     ·exact ⟨R0 - q0 * R1,.inl (by omega)⟩
     ·exact ⟨q0 * R1 - R0,.inr (by omega)⟩
    have e:∀ (p C:Nat),(q0 * p) * C = q0 * (p * C):=fun p C => Nat.mul_assoc _ _ _
    have d0:=W.d0
    have d1:=W.d1
    rw [W.u2e,W.v2e] at hR2
    cases o
    ·rw [show (!false) = true from rfl,dif_true] at d0 hR2
     rw [dif_false] at d1
     have e2:q0 * R1 + q0 * (u1 * A) = q0 * (v1 * B):=by rw [← Nat.mul_add,d1]
     rw [Nat.add_mul,Nat.add_mul,e,e] at hR2
     omega
    ·rw [show (!true) = false from rfl,dif_false] at d0 hR2
     rw [dif_true] at d1
     have e2:q0 * R1 + q0 * (v1 * B) = q0 * (u1 * A):=by rw [← Nat.mul_add,d1]
     rw [Nat.add_mul,Nat.add_mul,e,e] at hR2
     omega
   exact ⟨R1,R2,q,by rw [Bool.not_not]; exact W.d1,hR2,by omega,(gcd_step hR).trans W.gcd,by have:=W.leB; omega,fun _ => W.leB,rfl,rfl⟩
open Go.RowKit Go.Deep
set_option linter.unusedVariables false

def topN (xs:List Nat) (n s:Nat):Nat:=(xs.getD (n - 2) 0 + 4294967296 * xs.getD (n - 1) 0) * 2 ^ s + xs.getD (n - 3) 0 / 2 ^ (32 - s)

theorem top_arith {L P S l m t:Nat} (hPS:P * S = 4294967296):L + (l + 4294967296 * (m + 4294967296 * t)) = P * ((m + 4294967296 * t) * S + l / P) + (L + l % P):=by
 have h1:=Nat.div_add_mod l P
 have e:P * ((m + 4294967296 * t) * S) = 4294967296 * (m + 4294967296 * t):=by rw [Nat.mul_comm (m + 4294967296 * t) S,← Nat.mul_assoc,hPS]
 have e2:P * ((m + 4294967296 * t) * S + l / P) = P * ((m + 4294967296 * t) * S) + P * (l / P):=Nat.mul_add _ _ _
 rw [e2,e]
 omega

theorem top_val {xs:List Nat} {n s:Nat} (ox:Ok xs) (hl:xs.length ≤ n) (hn:3 ≤ n) (hs:s ≤ 31) :
  ∃ α,val xs = 2 ^ (32 * (n - 3) + (32 - s)) * topN xs n s + α ∧ α < 2 ^ (32 * (n - 3) + (32 - s)):=by
 have e1:=valF_add (fun i => xs.getD i 0) (n - 3) 3
 rw [show n - 3 + 3 = n from by omega,valF_ge xs n hl] at e1
 simp only [valF,Nat.pow_zero,Nat.one_mul,Nat.zero_add,Nat.pow_one,Nat.add_zero] at e1
 rw [show n - 3 + 1 = n - 2 from by omega,show n - 3 + 2 = n - 1 from by omega] at e1
 have hL:=valF_lt (f:=fun i => xs.getD i 0) (n:=n - 3) (fun i _ => ox.getD i)
 rw [pow_limb] at e1 hL
 generalize valF (fun i => xs.getD i 0) (n - 3) = L at *
 have hP:2 ^ (32 - s) * 2 ^ s = 4294967296:=by rw [← Nat.pow_add,show 32 - s + s = 32 from by omega]
 have hpos:0 < 2 ^ (32 - s):=Nat.two_pow_pos _
 have hm:=Nat.mod_lt (xs.getD (n - 3) 0) hpos
 have hA:=top_arith (L:=0) (l:=xs.getD (n - 3) 0) (m:=xs.getD (n - 2) 0) (t:=xs.getD (n - 1) 0) hP
 unfold topN
 rw [Nat.pow_add]
 generalize 2 ^ (32 * (n - 3)) = Q at *
 generalize 2 ^ (32 - s) = P at *
 generalize xs.getD (n - 3) 0 = l at *
 generalize xs.getD (n - 2) 0 = m at *
 generalize xs.getD (n - 1) 0 = t at *
 refine ⟨L + Q * (l % P),?_,?_⟩
 ·rw [e1,show (l + 4294967296 * m + 4294967296 ^ 2 * t) = 0 + (l + 4294967296 * (m + 4294967296 * t)) from by omega,hA,Nat.mul_add,Nat.zero_add,← Nat.mul_assoc]
  omega
 ·have:Q * (l % P) + Q ≤ Q * P:=by
   rw [← Nat.mul_succ]
   exact Nat.mul_le_mul_left Q hm
  omega

theorem top_lt {xs:List Nat} {n s:Nat} (ox:Ok xs) (hs:s ≤ 31) (ht:xs.getD (n - 1) 0 * 2 ^ s < 4294967296):topN xs n s < 18446744073709551616 ∧ (xs.getD (n - 2) 0 + 4294967296 * xs.getD (n - 1) 0) * 2 ^ s + 2 ^ s ≤ 18446744073709551616 ∧ xs.getD (n - 3) 0 / 2 ^ (32 - s) < 2 ^ s:=by
 have hP:2 ^ (32 - s) * 2 ^ s = 4294967296:=by rw [← Nat.pow_add,show 32 - s + s = 32 from by omega]
 have h1:=ox.getD (n - 2)
 have h3:=ox.getD (n - 3)
 have hS:0 < 2 ^ s:=Nat.two_pow_pos _
 have hd:xs.getD (n - 3) 0 / 2 ^ (32 - s) < 2 ^ s:=by
  rw [Nat.div_lt_iff_lt_mul (Nat.two_pow_pos _),Nat.mul_comm,hP]
  exact h3
 unfold topN
 generalize xs.getD (n - 3) 0 / 2 ^ (32 - s) = d at *
 generalize xs.getD (n - 2) 0 = m at *
 generalize xs.getD (n - 1) 0 = t at *
 generalize 2 ^ (32 - s) = P at *
 generalize 2 ^ s = S at *
 -- t S < 2^32 and S divides 2^32: t S + S <= 2^32
 have hk:t * S + S ≤ 4294967296:=by
  rw [← hP,← Nat.succ_mul]
  rw [← hP] at ht
  exact Nat.mul_le_mul_right S (Nat.lt_of_mul_lt_mul_right ht)
 have hm:m * S + S ≤ 4294967296 * S:=by
  rw [← Nat.succ_mul]
  exact Nat.mul_le_mul_right S h1
 have e:(m + 4294967296 * t) * S = m * S + 4294967296 * (t * S):=by rw [Nat.add_mul,Nat.mul_assoc]
 rw [e]
 exact ⟨by omega,by omega,hd⟩

theorem or_low {h S d:Nat} {s:Nat} (hS:S = 2 ^ s) (hd:d < S) (hb:h * S + S ≤ 18446744073709551616):bits .or .u64 ((h * S:Nat):Int) (d:Int) = ((h * S + d:Nat):Int):=by
 have h1:h * S < 18446744073709551616:=by omega
 have h2:d < 18446744073709551616:=by omega
 rw [u64_or_nat _ _ h1 h2]
 congr 1
 have:=Nat.shiftLeft_add_eq_or_of_lt (i:=s) (b:=d) (by rw [← hS]; exact hd) h
 rw [Nat.shiftLeft_eq,← hS] at this
 exact this.symm

set_option maxHeartbeats 4000000 in
theorem topWord_any (a:Option Addr) (m c:Nat) (xs:List Nat) (n s:Nat) (w:World) (h:Sl w a m c xs) (ox:Ok xs) (hn:3 ≤ n) (hn2:n ≤ 1000000) (hs:s ≤ 31) (ht:xs.getD (n - 1) 0 * 2 ^ s < 4294967296) :
  Calls Tryz.prog 198 #[.slice a m c,.int .i64 (n:Nat),.int .i64 (s:Nat)] w fun e w' => e = .returned (.int .u64 (topN xs n s:Nat)) ∧ ∃ k,w' = w.drewN k:=by
 have K1:=limbAt_any a m c xs ((n:Int) - 1) w h (by omega)
 have K2:=limbAt_any a m c xs ((n:Int) - 2) w h (by omega)
 have K3:=fun j => limbAt_any a m c xs ((n:Int) - 3) (w.drewN j) (h.drewN j) (by omega)
 rw [show ((n:Int) - 1).toNat = n - 1 from by omega] at K1
 rw [show ((n:Int) - 2).toNat = n - 2 from by omega] at K2
 rw [show ((n:Int) - 3).toNat = n - 3 from by omega] at K3
 have hT:=top_lt ox hs ht
 have b1:=ox.getD (n - 1)
 have b2:=ox.getD (n - 2)
 have b3:=ox.getD (n - 3)
 unfold topN at hT ⊢
 generalize xs.getD (n - 1) 0 = t at *
 generalize xs.getD (n - 2) 0 = m' at *
 generalize xs.getD (n - 3) 0 = l at *
 have e1:=or_halves t m' b1 b2
 have e2:(((m' + 4294967296 * t:Nat):Int)) * 2 ^ s = (((m' + 4294967296 * t) * 2 ^ s:Nat):Int):=by rw [Int.natCast_mul,Int.natCast_pow]; rfl
 have e3:(32:Int) - (s:Int) = ((32 - s:Nat):Int):=by omega
 have e4:(l:Int) / 2 ^ (32 - s) = ((l / 2 ^ (32 - s):Nat):Int):=by rw [Int.natCast_ediv,Int.natCast_pow]; rfl
 have e5:=or_low (h:=m' + 4294967296 * t) (s:=s) rfl hT.2.2 hT.2.1
 have hd:=hT.2.2
 have hb:=hT.2.1
 have hr:=hT.1
 have hhb:m' + 4294967296 * t < 18446744073709551616:=by omega
 generalize hh:m' + 4294967296 * t = hd0 at *
 have hle:hd0 * 2 ^ s < 18446744073709551616:=by have:=Nat.two_pow_pos s; omega
 generalize hh2:hd0 * 2 ^ s = hs0 at *
 have hl2:l / 2 ^ (32 - s) < 4294967296:=Nat.lt_of_le_of_lt (Nat.div_le_self _ _) b3
 generalize l / 2 ^ (32 - s) = d at *
 generalize hh3:32 - s = r at *
 have K1':=Hd K1
 have K2':=Hd K2
 have K3':=Hd K3
 clear K1 K2 K3 h hT ht hh hh2 hh3
 go_enter Tryz.func198,Tryz.ntmps198
 go_wp2_with fail
 refine (Uh K1').mono ?_
 rintro e w' ⟨rfl,hw⟩
 obtain rfl:=hw.symm
 go_wp2_with fail
 refine (Uh K2').mono ?_
 rintro e w' ⟨rfl,hw⟩
 obtain rfl:=hw.symm
 go_wp2_with fail
 go_quiet ((go_at_call 148; exact Calls.quiet_of_same (Uh K3' _)))
 go_wp2
 go_ret
 exact ⟨rfl,_,rfl⟩
end Go.Proofs.YtpbcnkcnjnefiaaGreatDoor
