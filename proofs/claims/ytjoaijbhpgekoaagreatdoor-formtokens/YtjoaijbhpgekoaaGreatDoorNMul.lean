/- MulS -/
import Derived.Test.YtjoaijbhpgekoaaGreatDoorMul
namespace Go.Proofs.YtjoaijbhpgekoaaGreatDoor
open Go.RowKit Go.Deep
set_option linter.unusedVariables false
structure MulPre (w:World) (bz oz nz cz:Nat) (a1:Option Addr) (n1 c1:Nat) (xs:List Nat) (a2:Option Addr) (n2 c2:Nat) (ys:List Nat):Prop where
 h1:Sl w a1 n1 c1 xs
 h2:Sl w a2 n2 c2 ys
 s1:∀ x,a1 = some x → xs ≠ [] → x.block ≠ bz ∨ x.off + xs.length ≤ oz ∨ oz + nz ≤ x.off
 s2:∀ x,a2 = some x → ys ≠ [] → x.block ≠ bz ∨ x.off + ys.length ≤ oz ∨ oz + nz ≤ x.off
 ox:Ok xs
 oy:Ok ys
 hz:Fn w bz oz nz (fun _ => 0)
 hnz:n1 + n2 = nz
 hcz:nz ≤ cz
 hm:cz ≤ maxLen

theorem MulPre.swap {w:World} {bz oz nz cz:Nat} {a1:Option Addr} {n1 c1:Nat} {xs:List Nat} {a2:Option Addr} {n2 c2:Nat} {ys:List Nat} (h:MulPre w bz oz nz cz a1 n1 c1 xs a2 n2 c2 ys):MulPre w bz oz nz cz a2 n2 c2 ys a1 n1 c1 xs :=
 ⟨h.h2,h.h1,h.s2,h.s1,h.oy,h.ox,h.hz,by have:=h.hnz; omega,h.hcz,h.hm⟩

def MulPost (w:World) (bz oz nz:Nat) (v:Nat) (e:Ending) (w':World):Prop :=
 e = .returned (.tuple #[]) ∧ ∃ f',Fn w' bz oz nz f' ∧ (∀ i,i < nz → f' i < 4294967296) ∧ valF f' nz = v ∧ Upd bz oz (oz + nz) w w'

set_option maxHeartbeats 800000 in
theorem rows_nil (bz oz nz cz n1 c1 c2:Nat) (a1 a2:Option Addr) (w:World) :
  Calls Tryz.prog 109 #[.slice (some ⟨bz,oz,none⟩) nz cz,.slice a1 n1 c1,.slice a2 0 c2] w fun e w' => e = .returned (.tuple #[]) ∧ w' = w:=by
 go_enter Tryz.func109,Tryz.ntmps109
 go_wp2
 go_loop [13] (fun i => i = .int .i64 0) (fun i => (intOf i).toNat)
 case atStart => rfl
 case round =>
  subst hrel
  go_wp2
  go_end0
  exact ⟨rfl,rfl⟩

theorem rows_any {w:World} {bz oz nz cz:Nat} {a1:Option Addr} {n1 c1:Nat} {xs:List Nat} {a2:Option Addr} {n2 c2:Nat} {ys:List Nat} (h:MulPre w bz oz nz cz a1 n1 c1 xs a2 n2 c2 ys) (hle:n2 ≤ n1) :
  Calls Tryz.prog 109 #[.slice (some ⟨bz,oz,none⟩) nz cz,.slice a1 n1 c1,.slice a2 n2 c2] w fun e w' => MulPost w bz oz nz (val xs * val ys) e w':=by
 have l1:=h.h1.len
 have l2:=h.h2.len
 by_cases h0:ys = []
 ·have hh:=h.hz
  subst h0
  simp at l2
  subst l2
  refine (rows_nil bz oz nz cz n1 c1 c2 a1 a2 w).mono ?_
  rintro e w' ⟨rfl,rfl⟩
  exact ⟨rfl,_,hh,fun _ _ => by decide,by simp [val,valF_zero],Upd.refl _ _ _ _⟩
 ·have hx0:xs ≠ []:=by
   intro e
   subst e
   simp at l1
   have:ys = []:=List.eq_nil_of_length_eq_zero (by omega)
   exact h0 this
  rcases h.h1.cells with e | ⟨b1,o1,rfl,k1⟩
  ·exact absurd e hx0
  ·rcases h.h2.cells with e | ⟨b2,o2,rfl,k2⟩
   ·exact absurd e h0
   ·exact rows_some bz oz nz cz b1 o1 n1 c1 b2 o2 n2 c2 xs ys w (h.s1 _ rfl hx0) (h.s2 _ rfl h0) l1 l2 h.hnz h.hcz h.hm h.ox h.oy h.hz k1 k2

set_option maxHeartbeats 800000 in
theorem into_st {w:World} {bz oz nz cz:Nat} {a1:Option Addr} {n1 c1:Nat} {xs:List Nat} {a2:Option Addr} {n2 c2:Nat} {ys:List Nat} (h:MulPre w bz oz nz cz a1 n1 c1 xs a2 n2 c2 ys) (hge:n2 ≤ n1) (hs:n2 < 48) :
  Calls Tryz.prog 100 #[.slice (some ⟨bz,oz,none⟩) nz cz,.slice a1 n1 c1,.slice a2 n2 c2] w fun e w' => MulPost w bz oz nz (val xs * val ys) e w':=by
 have K:=Hj (rows_any h hge)
 have ht:¬ (n1:Int) < (n2:Int):=by omega
 have ht2:(n2:Int) < 48:=by omega
 skip
 clear h
 go_enter Tryz.func100,Tryz.ntmps100
 go_wp2_with fail
 refine (Uh K).mono ?_
 rintro e w' ⟨rfl,hp⟩
 have HP:=Hj hp
 clear hp K
 go_wp2
 go_end0
 exact ⟨rfl,Uh HP⟩

set_option maxHeartbeats 800000 in
theorem into_sw {w:World} {bz oz nz cz:Nat} {a1:Option Addr} {n1 c1:Nat} {xs:List Nat} {a2:Option Addr} {n2 c2:Nat} {ys:List Nat} (h:MulPre w bz oz nz cz a1 n1 c1 xs a2 n2 c2 ys) (hlt:n1 < n2) (hs:n1 < 48) :
  Calls Tryz.prog 100 #[.slice (some ⟨bz,oz,none⟩) nz cz,.slice a1 n1 c1,.slice a2 n2 c2] w fun e w' => MulPost w bz oz nz (val xs * val ys) e w':=by
 have K:=Hj (rows_any h.swap (by omega))
 have ht:(n1:Int) < (n2:Int):=by omega
 have ht2:(n1:Int) < 48:=by omega
 rw [Nat.mul_comm (val xs)]
 clear h
 go_enter Tryz.func100,Tryz.ntmps100
 go_wp2_with fail
 refine (Uh K).mono ?_
 rintro e w' ⟨rfl,hp⟩
 have HP:=Hj hp
 clear hp K
 go_wp2
 go_end0
 exact ⟨rfl,Uh HP⟩

theorem into_small {w:World} {bz oz nz cz:Nat} {a1:Option Addr} {n1 c1:Nat} {xs:List Nat} {a2:Option Addr} {n2 c2:Nat} {ys:List Nat} (h:MulPre w bz oz nz cz a1 n1 c1 xs a2 n2 c2 ys) (hs:n1 < 48 ∨ n2 < 48) :
  Calls Tryz.prog 100 #[.slice (some ⟨bz,oz,none⟩) nz cz,.slice a1 n1 c1,.slice a2 n2 c2] w fun e w' => MulPost w bz oz nz (val xs * val ys) e w':=by
 by_cases hlt:n1 < n2
 ·exact into_sw h hlt (by omega)
 ·exact into_st h (by omega) (by omega)

theorem make_sum (n1 n2:Nat) (hn:n1 + n2 ≤ 70368744177000) (w:World):(Instr.makeSlice 36 (.int .i64 ((n1:Int) + (n2:Int))) (.int .i64 ((n1:Int) + (n2:Int)))).run Tryz.prog w = .ok (.slice (some ⟨w.heap.size,0,none⟩) (n1 + n2) (n1 + n2)) (w.alloc (.cells (madeCells #[.int .u32 0] (n1 + n2)) 94)):=by
 have:=make_len (n1 + n2) (by omega) w
 rw [show ((n1 + n2:Nat):Int) = (n1:Int) + (n2:Int) from by omega] at this
 exact this

set_option maxHeartbeats 800000 in
theorem multiply_of (a1 a2:Option Addr) (n1 c1 n2 c2:Nat) (xs ys:List Nat) (w:World) (h1:Sl w a1 n1 c1 xs) (h2:Sl w a2 n2 c2 ys) (ox:Ok xs) (oy:Ok ys) (hb:n1 + n2 ≤ 70368744177000)
  (KI:∀ w bz oz nz cz,MulPre w bz oz nz cz a1 n1 c1 xs a2 n2 c2 ys → Calls Tryz.prog 100 #[.slice (some ⟨bz,oz,none⟩) nz cz,.slice a1 n1 c1,.slice a2 n2 c2] w fun e w' => MulPost w bz oz nz (val xs * val ys) e w') :
  Calls Tryz.prog 86 #[.slice a1 n1 c1,.slice a2 n2 c2] w fun e w' => NewRep w w' (val xs * val ys) e:=by
 have hmk:=make_sum n1 n2 hb
 have bel0:=(Below.refl w.heap.size w).alloc (Nat.le_refl _) (.cells (madeCells #[.int .u32 0] (n1 + n2)) 94)
 have KM:=Hj (KI _ w.heap.size 0 (n1 + n2) (n1 + n2) ⟨h1.below bel0,h2.below bel0,fun x hx hne => .inl (by have:=h1.block_lt hne x hx; omega),fun x hx hne => .inl (by have:=h2.block_lt hne x hx; omega),ox,oy,Fn.made w (n1 + n2) 94,rfl,Nat.le_refl _,by unfold maxLen; omega⟩)
 have HB0:=Hj bel0
 clear KI bel0 h1 h2 ox oy
 go_enter Tryz.func86,Tryz.ntmps86
 go_wp2_with fail
 refine (Uh KM).mono ?_
 rintro e w1 ⟨rfl,f',hF,hf,hv,hupd⟩
 have KT:=trim_any _ (n1 + n2) (n1 + n2) _ w1 (hF.sl (Nat.le_refl _) (by unfold maxLen; omega)) (lst_ok hf)
 rw [lst_val,hv] at KT
 have KT':=Hj KT
 have HB2:=Hj ((Uh HB0).trans (hupd.below (Nat.le_refl _) (Uh HB0).size))
 clear KT hF hf hv hupd KM
 go_wp2_with fail
 refine (Uh KT').mono ?_
 rintro e w2 ⟨a',m,zs,rfl,hs,hr,ha,rfl⟩
 go_wp2
 go_ret
 refine ⟨a',m,zs,rfl,hs,hr,?_,Uh HB2⟩
 intro x hx
 rcases ha with rfl | rfl
 ·cases hx; exact Nat.le_refl _
 ·cases hx

def bitsL (xs:List Nat):Nat:=(xs.length - 1) * 32 + Lib.bitLen (xs.getD (xs.length - 1) 0)

set_option maxHeartbeats 800000 in
theorem bitLen_some (b off n c:Nat) (x:Nat) (w:World) (h0:0 < n) (hn:n ≤ 1000000000000) (hx:x < 4294967296) (hc:w.cell? ⟨b,off + (n - 1),none⟩ = some (.int .u32 (x:Nat))) :
  Calls Tryz.prog 84 #[.slice (some ⟨b,off,none⟩) n c] w fun e w' => e = .returned (.int .i64 (((n - 1) * 32 + Lib.bitLen x:Nat):Int)) ∧ w' = w:=by
 have h1:((n:Int) == 0) = false:=by simp; omega
 have h2:((n:Int) - 1).toNat = n - 1:=by omega
 have K:=Hj (len32_any x w hx)
 have hl:Lib.bitLen x ≤ 64:=Lib.bitLen_le x 64 (by omega) (by omega)
 have HE:=Hj (show ((n:Int) - 1) * 32 + ((Lib.bitLen x:Nat):Int) = (((n - 1) * 32 + Lib.bitLen x:Nat):Int) from by omega)
 go_enter Tryz.func84,Tryz.ntmps84
 go_wp2_with fail
 refine (Uh K).mono ?_
 rintro e w' ⟨rfl,hw⟩
 obtain rfl:=hw.symm
 go_wp2
 go_ret
 refine ⟨?_,rfl⟩
 show Ending.returned (Value.int IntKind.i64 (((n:Int) - 1) * 32 + ((Lib.bitLen x:Nat):Int))) = _
 rw [Uh HE]

theorem bitLen_any (a:Option Addr) (n c:Nat) (xs:List Nat) (w:World) (h:Sl w a n c xs) (ok:Ok xs) (h0:xs ≠ []) (hn:n ≤ 1000000000000) :
  Calls Tryz.prog 84 #[.slice a n c] w fun e w' => e = .returned (.int .i64 (bitsL xs:Nat)) ∧ w' = w:=by
 have hl:=h.len
 have hp:0 < xs.length:=List.length_pos_iff.2 h0
 rcases h.cells with e | ⟨b,off,rfl,k⟩
 ·exact absurd e h0
 ·have:=bitLen_some b off n c (xs.getD (n - 1) 0) w (by omega) hn (ok.getD _) (k (n - 1) (by omega))
  unfold bitsL
  rw [hl]
  exact this
theorem bl_pos:∀ (x:Nat),x ≠ 0 → x < 18446744073709551616 → 1 ≤ Lib.bitLen x:=by
 intro x h0 hx
 rw [Lib.bitLen_half x h0 hx]
 omega

theorem bl_ge:∀ (n x:Nat),x ≤ n → x ≠ 0 → x < 18446744073709551616 → 2 ^ (Lib.bitLen x - 1) ≤ x
 | 0,x,h,h0,_ => by omega
 | n + 1,x,h,h0,hx => by
  by_cases h1:x / 2 = 0
  ·have e:x = 1:=by omega
   subst e
   decide +kernel
  ·have ih:=bl_ge n (x / 2) (by omega) h1 (by omega)
   have hp:=bl_pos (x / 2) h1 (by omega)
   rw [Lib.bitLen_half x h0 hx]
   have e:1 + Lib.bitLen (x / 2) - 1 = (Lib.bitLen (x / 2) - 1) + 1:=by omega
   rw [e,Nat.pow_succ]
   omega

theorem pow_limb (k:Nat):(4294967296:Nat) ^ k = 2 ^ (32 * k):=by
 rw [Nat.pow_mul]

theorem val_ge_bits {xs:List Nat} (ox:Ok xs) (nx:Norm xs) (h0:xs ≠ []):1 ≤ bitsL xs ∧ 2 ^ (bitsL xs - 1) ≤ val xs:=by
 have hp:0 < xs.length:=List.length_pos_iff.2 h0
 have ht:xs.getD (xs.length - 1) 0 ≠ 0:=nx.resolve_left h0
 have hb:=ox.getD (xs.length - 1)
 have h1:=bl_pos _ ht (by omega)
 have h2:=bl_ge _ _ (Nat.le_refl _) ht (by omega)
 refine ⟨by unfold bitsL; omega,?_⟩
 rw [val_split xs (xs.length - 1) (by omega),drop_cons (by omega)]
 simp only [val]
 unfold bitsL
 have e:(xs.length - 1) * 32 + Lib.bitLen (xs.getD (xs.length - 1) 0) - 1 = 32 * (xs.length - 1) + (Lib.bitLen (xs.getD (xs.length - 1) 0) - 1):=by omega
 rw [e,Nat.pow_add,← pow_limb]
 have:4294967296 ^ (xs.length - 1) * 2 ^ (Lib.bitLen (xs.getD (xs.length - 1) 0) - 1) ≤ 4294967296 ^ (xs.length - 1) * (xs.getD (xs.length - 1) 0 + 4294967296 * val (xs.drop (xs.length - 1 + 1))):=Nat.mul_le_mul_left _ (by omega)
 exact Nat.le_trans this (Nat.le_add_left _ _)

theorem big_of_bits {xs ys:List Nat} (ox:Ok xs) (oy:Ok ys) (nx:Norm xs) (ny:Norm ys) (h1:xs ≠ []) (h2:ys ≠ []) (hb:65536 < bitsL xs + bitsL ys - 1):2048 < (limbs (val xs * val ys)).length:=by
 obtain ⟨p1,g1⟩:=val_ge_bits ox nx h1
 obtain ⟨p2,g2⟩:=val_ge_bits oy ny h2
 rcases Nat.lt_or_ge 2048 (limbs (val xs * val ys)).length with h | h
 ·exact h
 ·exfalso
  have hr:=limbs_rep (val xs * val ys)
  have hlt:=val_lt hr.ok
  rw [hr.val,pow_limb] at hlt
  have h3:2 ^ (bitsL xs - 1) * 2 ^ (bitsL ys - 1) ≤ val xs * val ys:=Nat.mul_le_mul g1 g2
  rw [← Nat.pow_add] at h3
  have h4:2 ^ (32 * (limbs (val xs * val ys)).length) ≤ 2 ^ (bitsL xs - 1 + (bitsL ys - 1)):=Nat.pow_le_pow_right (by decide) (by omega)
  exact absurd (Nat.lt_of_lt_of_le hlt (Nat.le_trans h4 h3)) (Nat.lt_irrefl _)

theorem bitsL_le {xs:List Nat} (ox:Ok xs) (h:xs.length ≤ 2048):bitsL xs ≤ 100000:=by
 have hb:=ox.getD (xs.length - 1)
 have:Lib.bitLen (xs.getD (xs.length - 1) 0) ≤ 64:=Lib.bitLen_le _ 64 (by omega) (by omega)
 unfold bitsL
 omega

def mulL (xs ys:List Nat):List Nat × Int:=if MayL xs && MayL ys then fitL (val xs * val ys) else ([],20)

set_option maxHeartbeats 4000000 in
theorem nmul_of (a1 a2:Option Addr) (n1 c1 n2 c2:Nat) (xs ys:List Nat) (w:World) (h1:Sl w a1 n1 c1 xs) (h2:Sl w a2 n2 c2 ys) (ox:Ok xs) (oy:Ok ys)
  (KMul:MayL xs = true → MayL ys = true → Calls Tryz.prog 86 #[.slice a1 n1 c1,.slice a2 n2 c2] w fun e w' => NewRep w w' (val xs * val ys) e) :
  Calls Tryz.prog 59 #[.slice a1 n1 c1,.slice a2 n2 c2] w fun e w' => Res2 w w' (mulL xs ys) e:=by
 have K1:=may_any a1 n1 c1 xs w h1
 have K2:=may_any a2 n2 c2 ys w h2
 by_cases m1:MayL xs = true
 ·by_cases m2:MayL ys = true
  ·rw [m1] at K1; rw [m2] at K2
   have K1':=Hj K1
   have K2':=Hj K2
   have nx:=MayL.norm m1
   have ny:=MayL.norm m2
   have hl1:n1 ≤ 2048:=by have:=h1.len; have:=MayL.len m1; omega
   have hl2:n2 ≤ 2048:=by have:=h2.len; have:=MayL.len m2; omega
   have HC:=Hj (show mulL xs ys = fitL (val xs * val ys) from by simp [mulL,m1,m2])
   have KX:=Hj (KMul m1 m2)
   by_cases z1:n1 = 0
   ·have t1:¬ (0:Int) < (n1:Int):=by omega
    clear K1 K2 m1 m2 h1 h2 ox oy nx ny KMul z1
    go_enter Tryz.func59,Tryz.ntmps59
    go_wp2_with fail
    refine (Uh K1').mono ?_
    rintro e w' ⟨rfl,hw⟩
    obtain rfl:=hw.symm
    go_wp2_with fail
    refine (Uh K2').mono ?_
    rintro e w' ⟨rfl,hw⟩
    obtain rfl:=hw.symm
    go_wp2_with fail
    refine (Uh KX).mono ?_
    rintro e w1 ⟨a',m,zs,rfl,hs,hr,ha,hb⟩
    have K4:=Hj (fit_any a' m m _ zs w1 hs hr)
    have HA:=Hj ha
    have HB:=Hj hb
    clear hs hr ha hb KX
    go_wp2_with fail
    refine (Uh K4).mono ?_
    rintro e w2 ⟨a2',m2,c2',rfl,hs2,ha2,rfl⟩
    go_wp2
    go_ret2
    rw [Uh HC]
    refine ⟨a2',m2,c2',rfl,hs2,?_,Uh HB⟩
    rcases ha2 with rfl | rfl
    ·exact Uh HA
    ·exact newAt_nil _
   ·have t1:(0:Int) < (n1:Int):=by omega
    by_cases z2:n2 = 0
    ·have t2:¬ (0:Int) < (n2:Int):=by omega
     clear K1 K2 m1 m2 h1 h2 ox oy nx ny KMul z1 z2
     go_enter Tryz.func59,Tryz.ntmps59
     go_wp2_with fail
     refine (Uh K1').mono ?_
     rintro e w' ⟨rfl,hw⟩
     obtain rfl:=hw.symm
     go_wp2_with fail
     refine (Uh K2').mono ?_
     rintro e w' ⟨rfl,hw⟩
     obtain rfl:=hw.symm
     go_wp2_with fail
     refine (Uh KX).mono ?_
     rintro e w1 ⟨a',m,zs,rfl,hs,hr,ha,hb⟩
     have K4:=Hj (fit_any a' m m _ zs w1 hs hr)
     have HA:=Hj ha
     have HB:=Hj hb
     clear hs hr ha hb KX
     go_wp2_with fail
     refine (Uh K4).mono ?_
     rintro e w2 ⟨a2',m2,c2',rfl,hs2,ha2,rfl⟩
     go_wp2
     go_ret2
     rw [Uh HC]
     refine ⟨a2',m2,c2',rfl,hs2,?_,Uh HB⟩
     rcases ha2 with rfl | rfl
     ·exact Uh HA
     ·exact newAt_nil _
    ·have t2:(0:Int) < (n2:Int):=by omega
     have e1:xs ≠ []:=by intro e; have:=h1.len; rw [e] at this; simp at this; omega
     have e2:ys ≠ []:=by intro e; have:=h2.len; rw [e] at this; simp at this; omega
     have KB1:=Hj (bitLen_any a1 n1 c1 xs w h1 ox e1 (by omega))
     have KB2:=Hj (bitLen_any a2 n2 c2 ys w h2 oy e2 (by omega))
     have hg1:bitsL xs ≤ 100000:=bitsL_le ox (by rw [h1.len]; omega)
     have hg2:bitsL ys ≤ 100000:=bitsL_le oy (by rw [h2.len]; omega)
     by_cases big:65536 < bitsL xs + bitsL ys - 1
     ·have hbig:=fitL_big (big_of_bits ox oy nx ny e1 e2 big)
      rw [hbig] at HC
      have t3:(65536:Int) < ((bitsL xs:Nat):Int) + ((bitsL ys:Nat):Int) - 1:=by omega
      generalize bitsL xs = u1 at *
      generalize bitsL ys = u2 at *
      clear K1 K2 m1 m2 h1 h2 ox oy nx ny KMul z1 z2 e1 e2 hbig big
      go_enter Tryz.func59,Tryz.ntmps59
      go_wp2_with fail
      refine (Uh K1').mono ?_
      rintro e w' ⟨rfl,hw⟩
      obtain rfl:=hw.symm
      go_wp2_with fail
      refine (Uh K2').mono ?_
      rintro e w' ⟨rfl,hw⟩
      obtain rfl:=hw.symm
      go_wp2_with fail
      refine (Uh KB1).mono ?_
      rintro e w' ⟨rfl,hw⟩
      obtain rfl:=hw.symm
      go_wp2_with fail
      refine (Uh KB2).mono ?_
      rintro e w' ⟨rfl,hw⟩
      obtain rfl:=hw.symm
      go_wp2
      go_ret2
      rw [Uh HC]
      exact ⟨none,0,0,rfl,sl_nil _,newAt_nil _,Below.refl _ _⟩
     ·have t3:¬ (65536:Int) < ((bitsL xs:Nat):Int) + ((bitsL ys:Nat):Int) - 1:=by omega
      generalize bitsL xs = u1 at *
      generalize bitsL ys = u2 at *
      clear K1 K2 m1 m2 h1 h2 ox oy nx ny KMul z1 z2 e1 e2 big
      go_enter Tryz.func59,Tryz.ntmps59
      go_wp2_with fail
      refine (Uh K1').mono ?_
      rintro e w' ⟨rfl,hw⟩
      obtain rfl:=hw.symm
      go_wp2_with fail
      refine (Uh K2').mono ?_
      rintro e w' ⟨rfl,hw⟩
      obtain rfl:=hw.symm
      go_wp2_with fail
      refine (Uh KB1).mono ?_
      rintro e w' ⟨rfl,hw⟩
      obtain rfl:=hw.symm
      go_wp2_with fail
      refine (Uh KB2).mono ?_
      rintro e w' ⟨rfl,hw⟩
      obtain rfl:=hw.symm
      go_wp2_with fail
      refine (Uh KX).mono ?_
      rintro e w1 ⟨a',m,zs,rfl,hs,hr,ha,hb⟩
      have K4:=Hj (fit_any a' m m _ zs w1 hs hr)
      have HA:=Hj ha
      have HB:=Hj hb
      clear hs hr ha hb KX
      go_wp2_with fail
      refine (Uh K4).mono ?_
      rintro e w2 ⟨a2',m2,c2',rfl,hs2,ha2,rfl⟩
      go_wp2
      go_ret2
      rw [Uh HC]
      refine ⟨a2',m2,c2',rfl,hs2,?_,Uh HB⟩
      rcases ha2 with rfl | rfl
      ·exact Uh HA
      ·exact newAt_nil _
  ·have m2':MayL ys = false:=by simpa using m2
   rw [m1] at K1; rw [m2'] at K2
   have K1':=Hj K1
   have K2':=Hj K2
   have HC:=Hj (show mulL xs ys = ([],20) from by simp [mulL,m2'])
   clear K1 K2 m1 m2 m2' h1 h2 ox oy
   go_enter Tryz.func59,Tryz.ntmps59
   go_wp2_with fail
   refine (Uh K1').mono ?_
   rintro e w' ⟨rfl,hw⟩
   obtain rfl:=hw.symm
   go_wp2_with fail
   refine (Uh K2').mono ?_
   rintro e w' ⟨rfl,hw⟩
   obtain rfl:=hw.symm
   go_wp2
   go_ret2
   rw [Uh HC]
   exact ⟨none,0,0,rfl,sl_nil _,newAt_nil _,Below.refl _ _⟩
 ·have m1':MayL xs = false:=by simpa using m1
  rw [m1'] at K1
  have K1':=Hj K1
  have HC:=Hj (show mulL xs ys = ([],20) from by simp [mulL,m1'])
  clear K1 K2 m1 m1' h1 h2 ox oy
  go_enter Tryz.func59,Tryz.ntmps59
  go_wp2_with fail
  refine (Uh K1').mono ?_
  rintro e w' ⟨rfl,hw⟩
  obtain rfl:=hw.symm
  go_wp2
  go_ret2
  rw [Uh HC]
  exact ⟨none,0,0,rfl,sl_nil _,newAt_nil _,Below.refl _ _⟩
end Go.Proofs.YtjoaijbhpgekoaaGreatDoor
