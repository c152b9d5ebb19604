/- Rd3 -/
import Derived.Test.YtjoaijbhpgekoaaGreatDoorRSh
import Derived.Test.YtjoaijbhpgekoaaGreatDoorDv7
namespace Go.Proofs.YtjoaijbhpgekoaaGreatDoor
open Go.RowKit Go.Deep
set_option linter.unusedVariables false
theorem dm_less {V D i r:Nat} (hD:0 < D) (hr:r = 2 * (V / 2 ^ (i + 1) % D) + bitN V i) (h:r < D):V / 2 ^ i % D = r ∧ V / 2 ^ i / D * 2 ^ i = V / 2 ^ (i + 1) / D * 2 ^ (i + 1):=by
 have e1:V / 2 ^ (i + 1) = V / 2 ^ i / 2:=by rw [Nat.pow_succ,Nat.div_div_eq_div_mul]
 have e2:V / 2 ^ i = D * (2 * (V / 2 ^ (i + 1) / D)) + r:=by
  have h1:=Nat.div_add_mod (V / 2 ^ i) 2
  have h2:=Nat.div_add_mod (V / 2 ^ (i + 1)) D
  have h3:D * (2 * (V / 2 ^ (i + 1) / D)) = 2 * (D * (V / 2 ^ (i + 1) / D)):=by rw [← Nat.mul_assoc,Nat.mul_comm D 2,Nat.mul_assoc]
  rw [h3]
  unfold bitN at hr
  rw [← e1] at h1
  omega
 have e3:=(Nat.div_mod_unique hD).2 ⟨(Nat.add_comm r _).trans e2.symm,h⟩
 refine ⟨e3.2,?_⟩
 rw [e3.1,Nat.pow_succ,Nat.mul_comm 2,Nat.mul_assoc,Nat.mul_comm 2]

theorem dm_more {V D i r:Nat} (hD:0 < D) (hr:r + D = 2 * (V / 2 ^ (i + 1) % D) + bitN V i):V / 2 ^ i % D = r ∧ V / 2 ^ i / D * 2 ^ i = V / 2 ^ (i + 1) / D * 2 ^ (i + 1) + 2 ^ i:=by
 have e1:V / 2 ^ (i + 1) = V / 2 ^ i / 2:=by rw [Nat.pow_succ,Nat.div_div_eq_div_mul]
 have hb:=bitN_lt V i
 have hm:=Nat.mod_lt (V / 2 ^ (i + 1)) hD
 have e2:V / 2 ^ i = D * (2 * (V / 2 ^ (i + 1) / D) + 1) + r:=by
  have h1:=Nat.div_add_mod (V / 2 ^ i) 2
  have h2:=Nat.div_add_mod (V / 2 ^ (i + 1)) D
  have h3:D * (2 * (V / 2 ^ (i + 1) / D) + 1) = 2 * (D * (V / 2 ^ (i + 1) / D)) + D:=by rw [Nat.mul_add,← Nat.mul_assoc,Nat.mul_comm D 2,Nat.mul_assoc,Nat.mul_one]
  rw [h3]
  unfold bitN at hr
  rw [← e1] at h1
  omega
 have e3:=(Nat.div_mod_unique hD).2 ⟨(Nat.add_comm r _).trans e2.symm,(by omega:r < D)⟩
 refine ⟨e3.2,?_⟩
 rw [e3.1,Nat.add_mul,Nat.one_mul,Nat.pow_succ,Nat.mul_comm 2,Nat.mul_assoc,Nat.mul_comm 2]

theorem valF_put {f:Nat → Nat} {l d:Nat}:∀ {n:Nat},l < n → valF (fun i => if i = l then f l + d else f i) n = valF f n + 4294967296 ^ l * d
 | 0,h => by omega
 | n + 1,h => by
  simp only [valF]
  by_cases e:n = l
  ·subst e
   rw [valF_congr (g:=f) (fun i hi => by rw [if_neg (by omega)])]
   simp only [if_true,Nat.mul_add]
   omega
  ·rw [valF_put (n:=n) (by omega),if_neg e]
   omega

theorem limb_low {f:Nat → Nat} {n l s M:Nat} (ok:∀ i,i < n → f i < 4294967296) (hl:l < n) (hs:s < 32) (hv:valF f n = M * 2 ^ (32 * l + s + 1)):f l % 2 ^ (s + 1) = 0:=by
 have h1:f l = valF f n / 4294967296 ^ l % 4294967296:=by
  have:=val_drop (lst_ok ok) l
  rw [lst_val] at this
  rw [← this,val_drop_step,lst_getD f n l hl]
  have:=ok l hl
  omega
 rw [h1,hv,pow_limb,Nat.add_assoc,Nat.pow_add,Nat.mul_comm (2 ^ (32 * l)),← Nat.mul_assoc,Nat.mul_div_cancel _ (Nat.two_pow_pos _),show (4294967296:Nat) = 2 ^ (s + 1) * 2 ^ (31 - s) from by rw [← Nat.pow_add]; rw [show s + 1 + (31 - s) = 32 from by omega],Nat.mod_mul_right_mod]
 exact Nat.mul_mod_left _ _

theorem or_bit {x s:Nat} (hx:x < 4294967296) (hs:s < 32) (h:x % 2 ^ (s + 1) = 0):bits .or .u32 (x:Int) ((2 ^ s:Nat):Int) = ((x + 2 ^ s:Nat):Int) ∧ x + 2 ^ s < 4294967296:=by
 have hp:=(pow_s hs)
 have h2:2 ^ s < 4294967296:=by have:=Nat.pow_lt_pow_right (a:=2) (by decide) hs; omega
 have e:x = x / 2 ^ (s + 1) * 2 ^ (s + 1):=by have:=Nat.div_add_mod x (2 ^ (s + 1)); rw [h,Nat.add_zero,Nat.mul_comm] at this; exact this.symm
 have e2:x ||| 2 ^ s = x + 2 ^ s:=by
  rw [e]
  have:=Nat.shiftLeft_add_eq_or_of_lt (i:=s + 1) (b:=2 ^ s) (Nat.pow_lt_pow_right (by decide) (by omega)) (x / 2 ^ (s + 1))
  rw [Nat.shiftLeft_eq] at this
  exact this.symm
 refine ⟨by rw [u32_or_nat _ _ hx h2,e2],?_⟩
 rw [← e2]
 exact Nat.or_lt_two_pow (n:=32) hx h2

structure DmR (wr w:World) (bq n1 br n2 V D i:Nat) (f g:Nat → Nat):Prop where
 q:Fn wr bq 0 n1 f
 qok:∀ j,j < n1 → f j < 4294967296
 qv:valF f n1 = V / 2 ^ i / D * 2 ^ i
 r:Fn wr br 0 (n2 + 1) g
 rok:∀ j,j < n2 + 1 → g j < 4294967296
 rv:valF g (n2 + 1) = V / 2 ^ i % D
 bel:Below w.heap.size w wr

theorem dm_start {V D s bx b:Nat} (hD:2 ^ (b - 1) ≤ D) (hb:1 ≤ b) (hV:V < 2 ^ bx) (hs:bx = s + b):V / 2 ^ (s + 1) < D:=by
 refine Nat.lt_of_lt_of_le ?_ hD
 rw [Nat.div_lt_iff_lt_mul (Nat.two_pow_pos _),← Nat.pow_add,show b - 1 + (s + 1) = bx from by omega]
 exact hV

theorem twice_val {g g':Nat → Nat} {n c V D bit:Nat} (h:valF g' (n + 1) + 4294967296 ^ (n + 1) * c = 2 * valF g (n + 1) + bit) (hg:valF g (n + 1) < D) (hD:D ≤ 4294967296 ^ n) (hb:bit < 2):valF g' (n + 1) = 2 * valF g (n + 1) + bit:=by
 rcases Nat.eq_zero_or_pos c with h0 | h0
 ·rw [h0,Nat.mul_zero] at h; omega
 ·have h1:4294967296 ^ (n + 1) * 1 ≤ 4294967296 ^ (n + 1) * c:=Nat.mul_le_mul_left _ h0
  have h2:4294967296 ^ (n + 1) = 4294967296 ^ n * 4294967296:=Nat.pow_succ ..
  omega

theorem bits_top {xs:List Nat} {n:Nat} (ox:Ok xs) (nx:Norm xs) (h0:xs ≠ []) (hl:xs.length = n):bitsN xs ≤ 32 * n ∧ 1 ≤ bitsN xs ∧ 2 ^ (bitsN xs - 1) ≤ val xs:=by
 have h:=val_ge_bits ox nx h0
 have e:bitsN xs = bitsL xs:=by unfold bitsN; rw [if_neg h0]
 rw [e]
 refine ⟨?_,h.1,h.2⟩
 have h1:=val_lt ox
 rw [hl,pow_limb] at h1
 have h2:2 ^ (bitsL xs - 1) < 2 ^ (32 * n):=Nat.lt_of_le_of_lt h.2 h1
 have:=(Nat.pow_lt_pow_iff_right (by decide:1 < 2)).1 h2
 omega

def cpF (zs:List Nat) (k:Nat) (j:Nat):Nat:=if j < k then zs.getD j 0 else 0
theorem cpF_zero (zs:List Nat):cpF zs 0 = fun _ => 0:=by funext j; simp [cpF]
theorem cpF_step {w:World} {b n k:Nat} {zs:List Nat} (h:Fn w b 0 n (cpF zs k)) (hk:k < n):Fn (w.setCell ⟨b,0 + k,none⟩ (.int .u32 (zs.getD k 0:Nat))) b 0 n (cpF zs (k + 1)):=by
 refine (h.set k _ hk).congr ?_
 intro i hi
 unfold cpF
 by_cases e:i = k
 ·subst e; simp
 ·rw [if_neg e]
  by_cases l:i < k
  ·rw [if_pos l,if_pos (by omega)]
  ·rw [if_neg l,if_neg (by omega)]
theorem cpF_all {zs:List Nat} {n:Nat} (h:zs.length ≤ n):valF (cpF zs zs.length) n = val zs:=by
 rw [valF_congr (g:=fun j => zs.getD j 0)]
 ·exact valF_ge zs n h
 ·intro i hi
  unfold cpF
  by_cases l:i < zs.length
  ·rw [if_pos l]
  ·rw [if_neg l,getD_ge (by omega)]
theorem cpF_lt {zs:List Nat} (o:Ok zs) (k j:Nat):cpF zs k j < 4294967296:=by
 unfold cpF
 split
 ·exact o.getD j
 ·decide

theorem DmR.less {wr w w5:World} {bq n1 br n2 V D i:Nat} {f g g':Nat → Nat} {c:Nat} (h:DmR wr w bq n1 br n2 V D (i + 1) f g) (t:TwR w5 wr br (n2 + 1) g (bitN V i) (n2 + 1) c g') (hD:0 < D) (hD2:D ≤ 4294967296 ^ n2) (hne:bq ≠ br) (hbr:w.heap.size ≤ br) (hl:valF g' (n2 + 1) < D) (k:Nat):DmR (w5.drewN k) w bq n1 br n2 V D i f g':=by
 have hv:=twice_val (V:=V) t.val (by rw [h.rv]; exact Nat.mod_lt _ hD) hD2 (bitN_lt _ _)
 rw [h.rv] at hv
 have e:=dm_less hD hv hl
 have u:=t.upd
 exact ⟨u.fn h.q (.inl hne),h.qok,by rw [h.qv,e.2],t.fn,t.ok,e.1.symm,bel_drewN (h.bel.trans (u.below hbr h.bel.size)) k⟩

theorem DmR.more {wr w w5 w6:World} {bq n1 br n2 V D i:Nat} {f g g' g2:Nat → Nat} {c:Nat} (h:DmR wr w bq n1 br n2 V D (i + 1) f g) (t:TwR w5 wr br (n2 + 1) g (bitN V i) (n2 + 1) c g') (hD:0 < D) (hD2:D ≤ 4294967296 ^ n2) (hne:bq ≠ br) (hbr:w.heap.size ≤ br) (hbq:w.heap.size ≤ bq) (f2:Fn w6 br 0 (n2 + 1) g2) (o2:∀ j,j < n2 + 1 → g2 j < 4294967296) (v2:valF g2 (n2 + 1) + D = valF g' (n2 + 1)) (u2:Upd br 0 (n2 + 1) w5 w6) {l s:Nat} (hi:i = 32 * l + s) (hs:s < 32) (hl:l < n1) :
  f l % 2 ^ (s + 1) = 0 ∧ Fn w6 bq 0 n1 f ∧ DmR (w6.setCell ⟨bq,0 + l,none⟩ (.int .u32 (f l + 2 ^ s:Nat))) w bq n1 br n2 V D i (fun j => if j = l then f l + 2 ^ s else f j) g2:=by
 have hv:=twice_val (V:=V) t.val (by rw [h.rv]; exact Nat.mod_lt _ hD) hD2 (bitN_lt _ _)
 rw [h.rv,← v2] at hv
 have e:=dm_more hD hv
 have u:=t.upd.trans u2
 have h0:f l % 2 ^ (s + 1) = 0:=limb_low h.qok hl hs (by rw [h.qv,hi])
 have hq:=u.fn h.q (.inl hne)
 have hx:=(or_bit (h.qok l hl) hs h0).2
 refine ⟨h0,hq,hq.set l _ hl,?_,?_,?_,o2,e.1.symm,?_⟩
 ·intro j hj
  by_cases k:j = l
  ·simp only [k,if_true]; exact hx
  ·simp only [k,if_false]; exact h.qok j hj
 ·rw [valF_put hl,h.qv,e.2,pow_limb,← Nat.pow_add,← hi]
 ·exact ((Upd.refl bq 0 n1 w6).set (0 + l) (.int .u32 (f l + 2 ^ s:Nat)) (by omega) (by omega)).fn f2 (.inl (Ne.symm hne))
 ·exact (h.bel.trans (u.below hbr h.bel.size)).trans ((((Upd.refl bq 0 n1 w6).set (0 + l) (.int .u32 (f l + 2 ^ s:Nat)) (by omega) (by omega))).below hbq (Nat.le_trans h.bel.size (u.below hbr h.bel.size).size))

def Res4w (w w':World) (r:List Nat × List Nat × Int) (e:Ending):Prop :=
 ∃ aq mq cq ar mr cr,e = .returned (.tuple #[.slice aq mq cq,.slice ar mr cr,.int .i64 r.2.2]) ∧ Sl w' aq mq cq r.1 ∧ NewAt w.heap.size aq ∧ Sl w' ar mr cr r.2.1 ∧ NewAt w.heap.size ar ∧ Below w.heap.size w w'
theorem Res4.weak {w w':World} {r:List Nat × List Nat × Int} {e:Ending} (h:Res4 w w' r e):Res4w w w' r e:=by
 obtain ⟨aq,mq,cq,ar,mr,cr,h1,h2,h3,h4,h5,_,h6⟩:=h
 exact ⟨aq,mq,cq,ar,mr,cr,h1,h2,h3,h4,h5,h6⟩

set_option maxHeartbeats 8000000 in
theorem rdm_some (b1 o1 n1 c1 b2 o2 n2 c2:Nat) (xs ys:List Nat) (w:World) (h1:Sl w (some ⟨b1,o1,none⟩) n1 c1 xs) (h2:Sl w (some ⟨b2,o2,none⟩) n2 c2 ys) (ox:Ok xs) (oy:Ok ys) (m1:MayL xs = true) (m2:MayL ys = true) (hx:xs ≠ []) (hy:ys ≠ []) (hle:bitsN ys ≤ bitsN xs) :
  Calls Tryz.prog 53 #[.slice (some ⟨b1,o1,none⟩) n1 c1,.slice (some ⟨b2,o2,none⟩) n2 c2] w fun e w' => Res4w w w' (limbs (val xs / val ys),limbs (val xs % val ys),0) e:=by
 have K1:=rmay_any _ n1 c1 xs w h1
 have K2:=rmay_any _ n2 c2 ys w h2
 rw [m1] at K1
 rw [m2] at K2
 have K1':=Hj K1
 have K2':=Hj K2
 have KB1:=Hj (rbits_any _ n1 c1 xs w h1 ox m1)
 have KB2:=Hj (rbits_any _ n2 c2 ys w h2 oy m2)
 have T1:=bits_top ox (MayL.norm m1) hx h1.len
 have T2:=bits_top oy (MayL.norm m2) hy h2.len
 have hl1:n1 ≤ 2048:=by have:=h1.len; have:=MayL.len m1; omega
 have hl2:n2 ≤ 2048:=by have:=h2.len; have:=MayL.len m2; omega
 have hn1:0 < n1:=by rw [← h1.len]; exact List.length_pos_iff.2 hx
 have hn2:0 < n2:=by rw [← h2.len]; exact List.length_pos_iff.2 hy
 obtain ⟨s,hs⟩:∃ s,bitsN xs = s + bitsN ys:=⟨bitsN xs - bitsN ys,by omega⟩
 have t1:((n2:Int) == 0) = false:=by simp; omega
 have t2:¬ (n2:Int) = 0:=by omega
 have t3:(bitsN xs:Int) - (bitsN ys:Int) = (s:Int):=by omega
 have hs1:s < 32 * n1:=by omega
 have hstart:=Hj (dm_start (s:=s) T2.2.2 T2.2.1 (val_lt_bits ox) hs)
 have hD:0 < val ys:=Nat.lt_of_lt_of_le (Nat.two_pow_pos _) T2.2.2
 have hD2:=Hj (show val ys ≤ 4294967296 ^ n2 from Nat.le_of_lt (by have:=val_lt oy; rwa [h2.len] at this))
 have hb1:bitsN xs ≤ 65536:=by omega
 have hb2:bitsN ys ≤ 65536:=by omega
 have bel1:=(Below.refl w.heap.size w).alloc (Nat.le_refl _) (.cells (madeCells #[.int .u32 0] n1) 94)
 have hmk1:=make_len n1 (by omega)
 have hmk2:=make_len1 n2 (by omega)
 have HB1:=Hj bel1
 have S1:=Hj (h1.below bel1)
 have S2:=Hj (h2.below bel1)
 have HQ:=Hj (Fn.made w n1 94)
 have hsz1:(w.alloc (.cells (madeCells #[.int .u32 0] n1) 94)).heap.size = w.heap.size + 1:=by simp
 have HX:=Hj h1
 have HY:=Hj h2
 have M1:=Hj m1
 have M2:=Hj m2
 have hbl2:b2 < w.heap.size:=h2.block_lt hy _ rfl
 clear K1 K2 h1 h2 m1 m2 T1 T2 bel1 hs hle
 generalize bitsN xs = bx at *
 generalize bitsN ys = by0 at *
 go_enter Tryz.func53,Tryz.ntmps53
 go_wp2_with fail
 refine (Uh K1').mono ?_
 rintro e w' ⟨rfl,hw⟩
 obtain rfl:=hw.symm
 go_wp2_with fail
 refine (Uh K2').mono ?_
 rintro e w' ⟨rfl,hw⟩
 obtain rfl:=hw.symm
 go_wp2_with fail
 refine (Uh KB1).mono ?_
 rintro e w' ⟨rfl,hw⟩
 obtain rfl:=hw.symm
 go_wp2_with fail
 refine (Uh KB2).mono ?_
 rintro e w' ⟨rfl,hw⟩
 obtain rfl:=hw.symm
 clear K1' K2' KB1 KB2
 go_wp2_with fail
 have bel2:=(Below.refl (w.alloc (.cells (madeCells #[.int .u32 0] n1) 94)).heap.size (w.alloc (.cells (madeCells #[.int .u32 0] n1) 94))).alloc (Nat.le_refl _) (.cells (madeCells #[.int .u32 0] (n2 + 1)) 94)
 have HQ2:=Hj ((Uh HQ).below bel2)
 have HR2:=Hj (Fn.made (w.alloc (.cells (madeCells #[.int .u32 0] n1) 94)) (n2 + 1) 94)
 rw [hsz1] at HR2
 have HB2:=Hj ((Uh HB1).trans (bel2.mono (Uh HB1).size))
 have S1b:=(Uh S1).below bel2
 have KS:=rshr_any _ n1 c1 xs _ ((s + 1:Nat):Int) S1b ox
 rw [show shrL xs ((s + 1:Nat):Int) = (limbs (val xs / 2 ^ (s + 1)),0) from by unfold shrL; rw [Uh M1]; simp; omega,show ((s + 1:Nat):Int) = (s:Int) + 1 from by omega] at KS
 have KS':=Hj KS
 have hszw:((w.alloc (.cells (madeCells #[.int .u32 0] n1) 94)).alloc (.cells (madeCells #[.int .u32 0] (n2 + 1)) 94)).heap.size = w.heap.size + 2:=by simp
 clear bel2 S1b KS HQ S1 S2 HB1 hmk1 hmk2 hsz1
 generalize (w.alloc (.cells (madeCells #[.int .u32 0] n1) 94)).alloc (.cells (madeCells #[.int .u32 0] (n2 + 1)) 94) = w2 at *
 refine (Uh KS').mono ?_
 rintro e w3 ⟨az,mz,cz,rfl,hsz,haz,hbz⟩
 have hrz:=limbs_rep (val xs / 2 ^ (s + 1))
 have hmz:mz ≤ n2:=by
  rw [← hsz.len]
  exact rep_len_le hrz (Nat.lt_of_lt_of_le (Uh hstart) (Uh hD2))
 generalize hzs:limbs (val xs / 2 ^ (s + 1)) = zs at *
 have HRZ:=Hj hrz
 have HSZ:=Hj hsz
 have HQ3:=Hj ((Uh HQ2).below hbz)
 have HR3:=Hj ((Uh HR2).below hbz)
 have HB3:=Hj ((Uh HB2).trans (hbz.mono (Uh HB2).size))
 have hs3:w.heap.size + 2 ≤ w3.heap.size:=by rw [← hszw]; exact hbz.size
 have HAZ:=Hj (show ∀ x,az = some x → w.heap.size + 2 ≤ x.block from by rw [← hszw]; exact haz)
 clear hrz hsz haz hbz hzs HQ2 HR2 HB2 KS' hszw
 have oz:=(Uh HRZ).ok
 go_wp2_with fail
 go_loopw [12] (fun i wr => ∃ k:Nat,k ≤ mz ∧ i = .int .i64 k ∧ Fn wr (w.heap.size + 1) 0 (n2 + 1) (cpF zs k) ∧ Upd (w.heap.size + 1) 0 (n2 + 1) w3 wr) (fun i _ => mz - (intOf i).toNat)
 case atStart => exact ⟨0,Nat.zero_le _,rfl,by rw [cpF_zero]; exact Uh HR3,Upd.refl _ _ _ _⟩
 case round =>
  obtain ⟨k,hk,rfl,hF,hU⟩:=hrel
  by_cases hlt:k < mz
  ·have hlt':(k:Int) < (mz:Int):=by omega
   have hlt2:(k:Int) < (n2:Int) + 1:=by omega
   have hzl:=(Uh HSZ).len
   have hzne:zs ≠ []:=by intro e; rw [e] at hzl; simp at hzl; omega
   obtain ⟨bz,oz',rfl,hcz⟩:=(Uh HSZ).cells.resolve_left hzne
   have hbz:=Uh HAZ _ rfl
   simp only at hbz
   have g1:=hU.cells hcz (.inl (by omega)) k (by omega)
   have g2:=(hF k (by omega)).1
   have g3:=(hF k (by omega)).2
   rw [Nat.zero_add] at g2 g3
   have hS:=cpF_step hF (show k < n2 + 1 by omega)
   rw [Nat.zero_add] at hS
   have HS:=Hj (And.intro hS (hU.set k (.int .u32 (zs.getD k 0:Nat)) (Nat.zero_le _) (by omega)))
   have bz:=oz.getD k
   generalize zs.getD k 0 = y at *
   generalize cpF zs k k = y2 at *
   clear hF hU hS hzl hcz hzne
   go_wp2
   exact ⟨⟨k + 1,by omega,by go_num,(Uh HS).1,(Uh HS).2⟩,by simp [intOf]; omega⟩
  ·have hkm:k = mz:=by omega
   subst hkm
   have hlt':¬ (k:Int) < (k:Int):=by omega
   have hzl:=(Uh HSZ).len
   have hv:valF (cpF zs k) (n2 + 1) = val xs / 2 ^ (s + 1):=by
    rw [← hzl,cpF_all (by omega),(Uh HRZ).val]
   have HR0:=Hj (show DmR wr w w.heap.size n1 (w.heap.size + 1) n2 (val xs) (val ys) (s + 1) (fun _ => 0) (cpF zs k) from ⟨hU.fn (Uh HQ3) (.inl (by omega)),fun _ _ => by decide,by rw [valF_zero,Nat.div_eq_of_lt (Uh hstart),Nat.zero_mul],hF,fun j _ => cpF_lt oz k j,by rw [hv,Nat.mod_eq_of_lt (Uh hstart)],(Uh HB3).trans (hU.below (by omega) (Uh HB3).size)⟩)
   clear hF hU hzl hv HQ3 HR3 HB3 HSZ HAZ
   go_wp2_with fail
   go_loopw [13] (fun i wr => ∃ k:Nat,∃ f g:Nat → Nat,k ≤ s + 1 ∧ i = .int .i64 ((k:Int) - 1) ∧ DmR wr w w.heap.size n1 (w.heap.size + 1) n2 (val xs) (val ys) k f g) (fun i _ => (intOf i + 1).toNat)
   case atStart => exact ⟨s + 1,_,_,Nat.le_refl _,by congr 1; omega,Uh HR0⟩
   case round =>
    clear HR0
    obtain ⟨k2,f,g,hk,rfl,hR⟩:=hrel
    rcases k2 with _ | i
    ·have t0:¬ (0:Int) ≤ ((0:Nat):Int) - 1:=by omega
     have hqv:=hR.qv
     have hrv:=hR.rv
     rw [Nat.pow_zero,Nat.div_one,Nat.mul_one] at hqv
     rw [Nat.pow_zero,Nat.div_one] at hrv
     have KQ:=rtrim_any (some ⟨w.heap.size,0,none⟩) n1 n1 _ wr (hR.q.sl (Nat.le_refl _) (by unfold maxLen; omega)) (lst_ok hR.qok) (by omega)
     rw [lst_val,hqv] at KQ
     have KQ':=Hj KQ
     have HR:=Hj hR
     have HRV:=Hj hrv
     clear KQ hR hqv hrv
     go_wp2_with fail
     refine (Uh KQ').mono ?_
     rintro e w5 ⟨aq,mq,zq,rfl,hsq,hrq,haq,hbq⟩
     have KT:=rtrim_any (some ⟨w.heap.size + 1,0,none⟩) (n2 + 1) (n2 + 1) _ w5 (((Uh HR).r.below hbq).sl (Nat.le_refl _) (by unfold maxLen; omega)) (lst_ok (Uh HR).rok) (by omega)
     rw [lst_val,Uh HRV] at KT
     have KT':=Hj KT
     have HZQ:=Hj (And.intro hsq (And.intro hrq (And.intro haq hbq)))
     clear KT KQ' hsq hrq haq hbq
     go_wp2_with fail
     refine (Uh KT').mono ?_
     rintro e w6 ⟨ar,mr,zr,rfl,hsr,hrr,har,hbr⟩
     have HZR:=Hj (And.intro hsr (And.intro hrr (And.intro har hbr)))
     clear KT' hsr hrr har hbr
     go_wp2
     go_ret3
     obtain ⟨hsq,hrq,haq,hbq⟩:=Uh HZQ
     obtain ⟨hsr,hrr,har,hbr⟩:=Uh HZR
     have hb0:=(Uh HR).bel
     rw [hrq.eq] at hsq
     rw [hrr.eq] at hsr
     exact ⟨aq,mq,mq,ar,mr,mr,rfl,hsq.below hbr,fun x hx => Nat.le_trans hb0.size (haq x hx),hsr,fun x hx => Nat.le_trans (Nat.le_trans hb0.size hbq.size) (har x hx),(hb0.trans (hbq.mono hb0.size)).trans (hbr.mono (Nat.le_trans hb0.size hbq.size))⟩
    ·have t0:((i + 1:Nat):Int) - 1 = (i:Int):=by omega
     rw [t0]
     have t4:(0:Int) ≤ (i:Int):=by omega
     have KI:=Hj (rbit_any _ n1 c1 xs wr i ((Uh HX).below hR.bel) ox (Uh M1) (by omega))
     have hbb:=bitN_lt (val xs) i
     have KT:=Hj (twice_any (w.heap.size + 1) (n2 + 1) (bitN (val xs) i) g wr hR.r hR.rok (by omega) (by omega))
     have HR:=Hj hR
     clear hR
     go_wp2_with fail
     refine (Uh KI).mono ?_
     rintro e w' ⟨rfl,hw⟩
     obtain rfl:=hw.symm
     clear hw KI
     go_wp2_with fail
     refine (Uh KT).mono ?_
     rintro e w5 ⟨rfl,c,g',hT⟩
     have hY5:=((Uh HY).below (Uh HR).bel).upd' hT.upd (.inl (by omega))
     have KK:=Hj (takes_any (w.heap.size + 1) n2 b2 o2 c2 g' ys w5 hT.fn hT.ok (by omega) (by omega) hY5 oy (by omega))
     have HT:=Hj hT
     clear hT hY5 KT
     go_wp2_with fail
     refine (Uh KK).mono ?_
     rintro e w6 (⟨hl,rfl,j,hw⟩ | ⟨hge,rfl,g2,f2,o2',v2,u2⟩)
     ·have HS:=Hj ((Uh HR).less (Uh HT) hD (Uh hD2) (by omega) (by omega) hl j)
      obtain rfl:=hw
      clear KK HT HR
      go_wp2
      exact ⟨⟨i,_,_,by omega,rfl,Uh HS⟩,by simp [intOf]⟩
     ·obtain ⟨l,hl⟩:∃ l,i / 32 = l:=⟨_,rfl⟩
      obtain ⟨sh,hsh⟩:∃ sh,i % 32 = sh:=⟨_,rfl⟩
      have hs32:sh < 32:=by omega
      have hln:l < n1:=by omega
      have hM:=(Uh HR).more (Uh HT) hD (Uh hD2) (by omega) (by omega) (by omega) f2 o2' v2 u2 (l:=l) (s:=sh) (by omega) hs32 hln
      have hx:=(Uh HR).qok l hln
      have ho:=or_bit hx hs32 hM.1
      have q1:=(hM.2.1 l hln).1
      have q2:=(hM.2.1 l hln).2
      rw [Nat.zero_add] at q1 q2
      have hM2:=hM.2.2
      rw [Nat.zero_add] at hM2
      have HS:=Hj hM2
      have t5:(i:Int).tdiv 32 = (l:Int):=by rw [Int.tdiv_eq_ediv_of_nonneg (by omega)]; omega
      have t6:(i:Int).tmod 32 = (sh:Int):=by rw [Int.tmod_eq_emod_of_nonneg (by omega)]; omega
      have t7:(l:Int) < (n1:Int):=by omega
      clear hM hM2 f2 o2' v2 u2 KK HT HR
      generalize f l = x at *
      go_wp2_with fail
      have e8:(2:Int) ^ sh % 4294967296 = ((2 ^ sh:Nat):Int):=by
       have h9:2 ^ sh < 4294967296:=by have:=Nat.pow_lt_pow_right (a:=2) (by decide) hs32; omega
       have h8:((2:Int) ^ sh) = ((2 ^ sh:Nat):Int):=by rw [Int.natCast_pow]; rfl
       rw [h8]
       clear h8
       generalize (2:Nat) ^ sh = p at h9 ⊢
       omega
      rw [e8,ho.1]
      exact ⟨⟨i,_,_,by omega,rfl,Uh HS⟩,by show ((i:Int) - 1 + 1).toNat < ((i:Int) + 1).toNat; omega⟩

theorem bits_less {xs ys:List Nat} (ox:Ok xs) (oy:Ok ys) (ny:Norm ys) (hy:ys ≠ []) (h:bitsN xs < bitsN ys):val xs < val ys:=by
 have T:=bits_top oy ny hy rfl
 refine Nat.lt_of_lt_of_le (val_lt_bits ox) (Nat.le_trans ?_ T.2.2)
 exact Nat.pow_le_pow_right (by decide) (by omega)

set_option maxHeartbeats 4000000 in
theorem rdm_less (a1 a2:Option Addr) (n1 c1 n2 c2:Nat) (xs ys:List Nat) (w:World) (h1:Sl w a1 n1 c1 xs) (h2:Sl w a2 n2 c2 ys) (ox:Ok xs) (oy:Ok ys) (m1:MayL xs = true) (m2:MayL ys = true) (hy:ys ≠ []) (hlt:bitsN xs < bitsN ys) :
  Calls Tryz.prog 53 #[.slice a1 n1 c1,.slice a2 n2 c2] w fun e w' => Res4w w w' (limbs (val xs / val ys),limbs (val xs % val ys),0) e:=by
 have K1:=rmay_any _ n1 c1 xs w h1
 have K2:=rmay_any _ n2 c2 ys w h2
 rw [m1] at K1
 rw [m2] at K2
 have K1':=Hj K1
 have K2':=Hj K2
 have KB1:=Hj (rbits_any _ n1 c1 xs w h1 ox m1)
 have KB2:=Hj (rbits_any _ n2 c2 ys w h2 oy m2)
 have hl1:n1 ≤ 2048:=by have:=h1.len; have:=MayL.len m1; omega
 have hl2:n2 ≤ 2048:=by have:=h2.len; have:=MayL.len m2; omega
 have hn2:0 < n2:=by rw [← h2.len]; exact List.length_pos_iff.2 hy
 have hv:=bits_less ox oy (MayL.norm m2) hy hlt
 have HV:=Hj hv
 have t1:((n2:Int) == 0) = false:=by simp; omega
 have t2:¬ (n2:Int) = 0:=by omega
 have t3:(bitsN xs:Int) - (bitsN ys:Int) < 0:=by omega
 have hb1:=bitsN_le ox (MayL.len m1)
 have hb2:=bitsN_le oy (MayL.len m2)
 have KT:=Hj (rtrim_any a1 n1 c1 xs w h1 ox (by omega))
 clear K1 K2 h1 h2 m1 m2 hlt hv
 generalize bitsN xs = bx at *
 generalize bitsN ys = by0 at *
 go_enter Tryz.func53,Tryz.ntmps53
 go_wp2_with fail
 refine (Uh K1').mono ?_
 rintro e w' ⟨rfl,hw⟩
 obtain rfl:=hw.symm
 go_wp2_with fail
 refine (Uh K2').mono ?_
 rintro e w' ⟨rfl,hw⟩
 obtain rfl:=hw.symm
 go_wp2_with fail
 refine (Uh KB1).mono ?_
 rintro e w' ⟨rfl,hw⟩
 obtain rfl:=hw.symm
 go_wp2_with fail
 refine (Uh KB2).mono ?_
 rintro e w' ⟨rfl,hw⟩
 obtain rfl:=hw.symm
 clear K1' K2' KB1 KB2
 go_wp2_with fail
 refine (Uh KT).mono ?_
 rintro e w5 ⟨aq,mq,zq,rfl,hsq,hrq,haq,hbq⟩
 have HZQ:=Hj (And.intro hsq (And.intro hrq (And.intro haq hbq)))
 clear KT hsq hrq haq hbq
 go_wp2
 go_ret3
 obtain ⟨hsq,hrq,haq,hbq⟩:=Uh HZQ
 rw [hrq.eq] at hsq
 rw [Nat.div_eq_of_lt (Uh HV),Nat.mod_eq_of_lt (Uh HV)]
 exact ⟨none,0,0,aq,mq,mq,rfl,sl_nil _,newAt_nil _,hsq,haq,hbq⟩

set_option maxHeartbeats 2000000 in
theorem rdivmod_any (a1 a2:Option Addr) (n1 c1 n2 c2:Nat) (xs ys:List Nat) (w:World) (h1:Sl w a1 n1 c1 xs) (h2:Sl w a2 n2 c2 ys) (ox:Ok xs) (oy:Ok ys) :
  Calls Tryz.prog 53 #[.slice a1 n1 c1,.slice a2 n2 c2] w fun e w' => Res4w w w' (divL xs ys) e:=by
 have K1:=rmay_any a1 n1 c1 xs w h1
 have K2:=rmay_any a2 n2 c2 ys w h2
 by_cases m1:MayL xs = true
 ·by_cases m2:MayL ys = true
  ·by_cases hy:ys = []
   ·rw [m1] at K1; rw [m2] at K2
    have K1':=Hj K1
    have K2':=Hj K2
    have HC:=Hj (show divL xs ys = ([],[],3) from by simp [divL,m1,hy,show MayL [] = true from rfl])
    have hz:n2 = 0:=by rw [← h2.len,hy]; rfl
    subst hz
    clear K1 K2 m1 m2 h1 h2 ox oy hy
    go_enter Tryz.func53,Tryz.ntmps53
    go_wp2_with fail
    refine (Uh K1').mono ?_
    rintro e w' ⟨rfl,hw⟩
    obtain rfl:=hw.symm
    go_wp2_with fail
    refine (Uh K2').mono ?_
    rintro e w' ⟨rfl,hw⟩
    obtain rfl:=hw.symm
    go_wp2
    go_ret3
    rw [Uh HC]
    exact (res4_nil _ _).weak
   ·rw [show divL xs ys = (limbs (val xs / val ys),limbs (val xs % val ys),0) from by simp [divL,m1,m2,hy]]
    by_cases hb:bitsN xs < bitsN ys
    ·exact rdm_less a1 a2 n1 c1 n2 c2 xs ys w h1 h2 ox oy m1 m2 hy hb
    ·have T2:=bits_top oy (MayL.norm m2) hy rfl
     have hx:xs ≠ []:=by
      intro e
      rw [e] at hb
      simp only [bitsN,if_true] at hb
      have:=T2.2.1
      unfold bitsN at this
      omega
     obtain ⟨b1,o1,rfl,_⟩:=h1.cells.resolve_left hx
     obtain ⟨b2,o2,rfl,_⟩:=h2.cells.resolve_left hy
     exact rdm_some b1 o1 n1 c1 b2 o2 n2 c2 xs ys w h1 h2 ox oy m1 m2 hx hy (by omega)
  ·have m2':MayL ys = false:=by simpa using m2
   rw [m1] at K1; rw [m2'] at K2
   have K1':=Hj K1
   have K2':=Hj K2
   have HC:=Hj (show divL xs ys = ([],[],20) from by simp [divL,m2'])
   clear K1 K2 m1 m2 m2' h1 h2 ox oy
   go_enter Tryz.func53,Tryz.ntmps53
   go_wp2_with fail
   refine (Uh K1').mono ?_
   rintro e w' ⟨rfl,hw⟩
   obtain rfl:=hw.symm
   go_wp2_with fail
   refine (Uh K2').mono ?_
   rintro e w' ⟨rfl,hw⟩
   obtain rfl:=hw.symm
   go_wp2
   go_ret3
   rw [Uh HC]
   exact (res4_nil _ _).weak
 ·have m1':MayL xs = false:=by simpa using m1
  rw [m1'] at K1
  have K1':=Hj K1
  have HC:=Hj (show divL xs ys = ([],[],20) from by simp [divL,m1'])
  clear K1 K2 m1 m1' h1 h2 ox oy
  go_enter Tryz.func53,Tryz.ntmps53
  go_wp2_with fail
  refine (Uh K1').mono ?_
  rintro e w' ⟨rfl,hw⟩
  obtain rfl:=hw.symm
  go_wp2
  go_ret3
  rw [Uh HC]
  exact (res4_nil _ _).weak
end Go.Proofs.YtjoaijbhpgekoaaGreatDoor
