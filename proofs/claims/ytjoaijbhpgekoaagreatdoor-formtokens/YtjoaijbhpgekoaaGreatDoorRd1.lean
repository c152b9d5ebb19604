/- MulS -/
import Derived.Test.YtjoaijbhpgekoaaGreatDoorMul
namespace Go.Proofs.YtjoaijbhpgekoaaGreatDoor
open Go.RowKit Go.Deep
set_option linter.unusedVariables false
structure MulPre (w:World) (bz oz nz cz:Nat) (a1:Option Addr) (n1 c1:Nat) (xs:List Nat) (a2:Option Addr) (n2 c2:Nat) (ys:List Nat):Prop where
 h1:Sl w a1 n1 c1 xs
 h2:Sl w a2 n2 c2 ys
 s1:∀ x,a1 = some x → xs ≠ [] → x.block ≠ bz ∨ x.off + xs.length ≤ oz ∨ oz + nz ≤ x.off
 s2:∀ x,a2 = some x → ys ≠ [] → x.block ≠ bz ∨ x.off + ys.length ≤ oz ∨ oz + nz ≤ x.off
 ox:Ok xs
 oy:Ok ys
 hz:Fn w bz oz nz (fun _ => 0)
 hnz:n1 + n2 = nz
 hcz:nz ≤ cz
 hm:cz ≤ maxLen

theorem MulPre.swap {w:World} {bz oz nz cz:Nat} {a1:Option Addr} {n1 c1:Nat} {xs:List Nat} {a2:Option Addr} {n2 c2:Nat} {ys:List Nat} (h:MulPre w bz oz nz cz a1 n1 c1 xs a2 n2 c2 ys):MulPre w bz oz nz cz a2 n2 c2 ys a1 n1 c1 xs :=
 ⟨h.h2,h.h1,h.s2,h.s1,h.oy,h.ox,h.hz,by have:=h.hnz; omega,h.hcz,h.hm⟩

def MulPost (w:World) (bz oz nz:Nat) (v:Nat) (e:Ending) (w':World):Prop :=
 e = .returned (.tuple #[]) ∧ ∃ f',Fn w' bz oz nz f' ∧ (∀ i,i < nz → f' i < 4294967296) ∧ valF f' nz = v ∧ Upd bz oz (oz + nz) w w'

set_option maxHeartbeats 800000 in
theorem rows_nil (bz oz nz cz n1 c1 c2:Nat) (a1 a2:Option Addr) (w:World) :
  Calls Tryz.prog 109 #[.slice (some ⟨bz,oz,none⟩) nz cz,.slice a1 n1 c1,.slice a2 0 c2] w fun e w' => e = .returned (.tuple #[]) ∧ w' = w:=by
 go_enter Tryz.func109,Tryz.ntmps109
 go_wp2
 go_loop [13] (fun i => i = .int .i64 0) (fun i => (intOf i).toNat)
 case atStart => rfl
 case round =>
  subst hrel
  go_wp2
  go_end0
  exact ⟨rfl,rfl⟩

theorem rows_any {w:World} {bz oz nz cz:Nat} {a1:Option Addr} {n1 c1:Nat} {xs:List Nat} {a2:Option Addr} {n2 c2:Nat} {ys:List Nat} (h:MulPre w bz oz nz cz a1 n1 c1 xs a2 n2 c2 ys) (hle:n2 ≤ n1) :
  Calls Tryz.prog 109 #[.slice (some ⟨bz,oz,none⟩) nz cz,.slice a1 n1 c1,.slice a2 n2 c2] w fun e w' => MulPost w bz oz nz (val xs * val ys) e w':=by
 have l1:=h.h1.len
 have l2:=h.h2.len
 by_cases h0:ys = []
 ·have hh:=h.hz
  subst h0
  simp at l2
  subst l2
  refine (rows_nil bz oz nz cz n1 c1 c2 a1 a2 w).mono ?_
  rintro e w' ⟨rfl,rfl⟩
  exact ⟨rfl,_,hh,fun _ _ => by decide,by simp [val,valF_zero],Upd.refl _ _ _ _⟩
 ·have hx0:xs ≠ []:=by
   intro e
   subst e
   simp at l1
   have:ys = []:=List.eq_nil_of_length_eq_zero (by omega)
   exact h0 this
  rcases h.h1.cells with e | ⟨b1,o1,rfl,k1⟩
  ·exact absurd e hx0
  ·rcases h.h2.cells with e | ⟨b2,o2,rfl,k2⟩
   ·exact absurd e h0
   ·exact rows_some bz oz nz cz b1 o1 n1 c1 b2 o2 n2 c2 xs ys w (h.s1 _ rfl hx0) (h.s2 _ rfl h0) l1 l2 h.hnz h.hcz h.hm h.ox h.oy h.hz k1 k2

set_option maxHeartbeats 800000 in
theorem into_st {w:World} {bz oz nz cz:Nat} {a1:Option Addr} {n1 c1:Nat} {xs:List Nat} {a2:Option Addr} {n2 c2:Nat} {ys:List Nat} (h:MulPre w bz oz nz cz a1 n1 c1 xs a2 n2 c2 ys) (hge:n2 ≤ n1) (hs:n2 < 48) :
  Calls Tryz.prog 100 #[.slice (some ⟨bz,oz,none⟩) nz cz,.slice a1 n1 c1,.slice a2 n2 c2] w fun e w' => MulPost w bz oz nz (val xs * val ys) e w':=by
 have K:=Hj (rows_any h hge)
 have ht:¬ (n1:Int) < (n2:Int):=by omega
 have ht2:(n2:Int) < 48:=by omega
 skip
 clear h
 go_enter Tryz.func100,Tryz.ntmps100
 go_wp2_with fail
 refine (Uh K).mono ?_
 rintro e w' ⟨rfl,hp⟩
 have HP:=Hj hp
 clear hp K
 go_wp2
 go_end0
 exact ⟨rfl,Uh HP⟩

set_option maxHeartbeats 800000 in
theorem into_sw {w:World} {bz oz nz cz:Nat} {a1:Option Addr} {n1 c1:Nat} {xs:List Nat} {a2:Option Addr} {n2 c2:Nat} {ys:List Nat} (h:MulPre w bz oz nz cz a1 n1 c1 xs a2 n2 c2 ys) (hlt:n1 < n2) (hs:n1 < 48) :
  Calls Tryz.prog 100 #[.slice (some ⟨bz,oz,none⟩) nz cz,.slice a1 n1 c1,.slice a2 n2 c2] w fun e w' => MulPost w bz oz nz (val xs * val ys) e w':=by
 have K:=Hj (rows_any h.swap (by omega))
 have ht:(n1:Int) < (n2:Int):=by omega
 have ht2:(n1:Int) < 48:=by omega
 rw [Nat.mul_comm (val xs)]
 clear h
 go_enter Tryz.func100,Tryz.ntmps100
 go_wp2_with fail
 refine (Uh K).mono ?_
 rintro e w' ⟨rfl,hp⟩
 have HP:=Hj hp
 clear hp K
 go_wp2
 go_end0
 exact ⟨rfl,Uh HP⟩

theorem into_small {w:World} {bz oz nz cz:Nat} {a1:Option Addr} {n1 c1:Nat} {xs:List Nat} {a2:Option Addr} {n2 c2:Nat} {ys:List Nat} (h:MulPre w bz oz nz cz a1 n1 c1 xs a2 n2 c2 ys) (hs:n1 < 48 ∨ n2 < 48) :
  Calls Tryz.prog 100 #[.slice (some ⟨bz,oz,none⟩) nz cz,.slice a1 n1 c1,.slice a2 n2 c2] w fun e w' => MulPost w bz oz nz (val xs * val ys) e w':=by
 by_cases hlt:n1 < n2
 ·exact into_sw h hlt (by omega)
 ·exact into_st h (by omega) (by omega)

theorem make_sum (n1 n2:Nat) (hn:n1 + n2 ≤ 70368744177000) (w:World):(Instr.makeSlice 36 (.int .i64 ((n1:Int) + (n2:Int))) (.int .i64 ((n1:Int) + (n2:Int)))).run Tryz.prog w = .ok (.slice (some ⟨w.heap.size,0,none⟩) (n1 + n2) (n1 + n2)) (w.alloc (.cells (madeCells #[.int .u32 0] (n1 + n2)) 94)):=by
 have:=make_len (n1 + n2) (by omega) w
 rw [show ((n1 + n2:Nat):Int) = (n1:Int) + (n2:Int) from by omega] at this
 exact this

set_option maxHeartbeats 800000 in
theorem multiply_of (a1 a2:Option Addr) (n1 c1 n2 c2:Nat) (xs ys:List Nat) (w:World) (h1:Sl w a1 n1 c1 xs) (h2:Sl w a2 n2 c2 ys) (ox:Ok xs) (oy:Ok ys) (hb:n1 + n2 ≤ 70368744177000)
  (KI:∀ w bz oz nz cz,MulPre w bz oz nz cz a1 n1 c1 xs a2 n2 c2 ys → Calls Tryz.prog 100 #[.slice (some ⟨bz,oz,none⟩) nz cz,.slice a1 n1 c1,.slice a2 n2 c2] w fun e w' => MulPost w bz oz nz (val xs * val ys) e w') :
  Calls Tryz.prog 86 #[.slice a1 n1 c1,.slice a2 n2 c2] w fun e w' => NewRep w w' (val xs * val ys) e:=by
 have hmk:=make_sum n1 n2 hb
 have bel0:=(Below.refl w.heap.size w).alloc (Nat.le_refl _) (.cells (madeCells #[.int .u32 0] (n1 + n2)) 94)
 have KM:=Hj (KI _ w.heap.size 0 (n1 + n2) (n1 + n2) ⟨h1.below bel0,h2.below bel0,fun x hx hne => .inl (by have:=h1.block_lt hne x hx; omega),fun x hx hne => .inl (by have:=h2.block_lt hne x hx; omega),ox,oy,Fn.made w (n1 + n2) 94,rfl,Nat.le_refl _,by unfold maxLen; omega⟩)
 have HB0:=Hj bel0
 clear KI bel0 h1 h2 ox oy
 go_enter Tryz.func86,Tryz.ntmps86
 go_wp2_with fail
 refine (Uh KM).mono ?_
 rintro e w1 ⟨rfl,f',hF,hf,hv,hupd⟩
 have KT:=trim_any _ (n1 + n2) (n1 + n2) _ w1 (hF.sl (Nat.le_refl _) (by unfold maxLen; omega)) (lst_ok hf)
 rw [lst_val,hv] at KT
 have KT':=Hj KT
 have HB2:=Hj ((Uh HB0).trans (hupd.below (Nat.le_refl _) (Uh HB0).size))
 clear KT hF hf hv hupd KM
 go_wp2_with fail
 refine (Uh KT').mono ?_
 rintro e w2 ⟨a',m,zs,rfl,hs,hr,ha,rfl⟩
 go_wp2
 go_ret
 refine ⟨a',m,zs,rfl,hs,hr,?_,Uh HB2⟩
 intro x hx
 rcases ha with rfl | rfl
 ·cases hx; exact Nat.le_refl _
 ·cases hx

def bitsL (xs:List Nat):Nat:=(xs.length - 1) * 32 + Lib.bitLen (xs.getD (xs.length - 1) 0)

set_option maxHeartbeats 800000 in
theorem bitLen_some (b off n c:Nat) (x:Nat) (w:World) (h0:0 < n) (hn:n ≤ 1000000000000) (hx:x < 4294967296) (hc:w.cell? ⟨b,off + (n - 1),none⟩ = some (.int .u32 (x:Nat))) :
  Calls Tryz.prog 84 #[.slice (some ⟨b,off,none⟩) n c] w fun e w' => e = .returned (.int .i64 (((n - 1) * 32 + Lib.bitLen x:Nat):Int)) ∧ w' = w:=by
 have h1:((n:Int) == 0) = false:=by simp; omega
 have h2:((n:Int) - 1).toNat = n - 1:=by omega
 have K:=Hj (len32_any x w hx)
 have hl:Lib.bitLen x ≤ 64:=Lib.bitLen_le x 64 (by omega) (by omega)
 have HE:=Hj (show ((n:Int) - 1) * 32 + ((Lib.bitLen x:Nat):Int) = (((n - 1) * 32 + Lib.bitLen x:Nat):Int) from by omega)
 go_enter Tryz.func84,Tryz.ntmps84
 go_wp2_with fail
 refine (Uh K).mono ?_
 rintro e w' ⟨rfl,hw⟩
 obtain rfl:=hw.symm
 go_wp2
 go_ret
 refine ⟨?_,rfl⟩
 show Ending.returned (Value.int IntKind.i64 (((n:Int) - 1) * 32 + ((Lib.bitLen x:Nat):Int))) = _
 rw [Uh HE]

theorem bitLen_any (a:Option Addr) (n c:Nat) (xs:List Nat) (w:World) (h:Sl w a n c xs) (ok:Ok xs) (h0:xs ≠ []) (hn:n ≤ 1000000000000) :
  Calls Tryz.prog 84 #[.slice a n c] w fun e w' => e = .returned (.int .i64 (bitsL xs:Nat)) ∧ w' = w:=by
 have hl:=h.len
 have hp:0 < xs.length:=List.length_pos_iff.2 h0
 rcases h.cells with e | ⟨b,off,rfl,k⟩
 ·exact absurd e h0
 ·have:=bitLen_some b off n c (xs.getD (n - 1) 0) w (by omega) hn (ok.getD _) (k (n - 1) (by omega))
  unfold bitsL
  rw [hl]
  exact this
theorem bl_pos:∀ (x:Nat),x ≠ 0 → x < 18446744073709551616 → 1 ≤ Lib.bitLen x:=by
 intro x h0 hx
 rw [Lib.bitLen_half x h0 hx]
 omega

theorem bl_ge:∀ (n x:Nat),x ≤ n → x ≠ 0 → x < 18446744073709551616 → 2 ^ (Lib.bitLen x - 1) ≤ x
 | 0,x,h,h0,_ => by omega
 | n + 1,x,h,h0,hx => by
  by_cases h1:x / 2 = 0
  ·have e:x = 1:=by omega
   subst e
   decide +kernel
  ·have ih:=bl_ge n (x / 2) (by omega) h1 (by omega)
   have hp:=bl_pos (x / 2) h1 (by omega)
   rw [Lib.bitLen_half x h0 hx]
   have e:1 + Lib.bitLen (x / 2) - 1 = (Lib.bitLen (x / 2) - 1) + 1:=by omega
   rw [e,Nat.pow_succ]
   omega

theorem pow_limb (k:Nat):(4294967296:Nat) ^ k = 2 ^ (32 * k):=by
 rw [Nat.pow_mul]

theorem val_ge_bits {xs:List Nat} (ox:Ok xs) (nx:Norm xs) (h0:xs ≠ []):1 ≤ bitsL xs ∧ 2 ^ (bitsL xs - 1) ≤ val xs:=by
 have hp:0 < xs.length:=List.length_pos_iff.2 h0
 have ht:xs.getD (xs.length - 1) 0 ≠ 0:=nx.resolve_left h0
 have hb:=ox.getD (xs.length - 1)
 have h1:=bl_pos _ ht (by omega)
 have h2:=bl_ge _ _ (Nat.le_refl _) ht (by omega)
 refine ⟨by unfold bitsL; omega,?_⟩
 rw [val_split xs (xs.length - 1) (by omega),drop_cons (by omega)]
 simp only [val]
 unfold bitsL
 have e:(xs.length - 1) * 32 + Lib.bitLen (xs.getD (xs.length - 1) 0) - 1 = 32 * (xs.length - 1) + (Lib.bitLen (xs.getD (xs.length - 1) 0) - 1):=by omega
 rw [e,Nat.pow_add,← pow_limb]
 have:4294967296 ^ (xs.length - 1) * 2 ^ (Lib.bitLen (xs.getD (xs.length - 1) 0) - 1) ≤ 4294967296 ^ (xs.length - 1) * (xs.getD (xs.length - 1) 0 + 4294967296 * val (xs.drop (xs.length - 1 + 1))):=Nat.mul_le_mul_left _ (by omega)
 exact Nat.le_trans this (Nat.le_add_left _ _)

theorem big_of_bits {xs ys:List Nat} (ox:Ok xs) (oy:Ok ys) (nx:Norm xs) (ny:Norm ys) (h1:xs ≠ []) (h2:ys ≠ []) (hb:65536 < bitsL xs + bitsL ys - 1):2048 < (limbs (val xs * val ys)).length:=by
 obtain ⟨p1,g1⟩:=val_ge_bits ox nx h1
 obtain ⟨p2,g2⟩:=val_ge_bits oy ny h2
 rcases Nat.lt_or_ge 2048 (limbs (val xs * val ys)).length with h | h
 ·exact h
 ·exfalso
  have hr:=limbs_rep (val xs * val ys)
  have hlt:=val_lt hr.ok
  rw [hr.val,pow_limb] at hlt
  have h3:2 ^ (bitsL xs - 1) * 2 ^ (bitsL ys - 1) ≤ val xs * val ys:=Nat.mul_le_mul g1 g2
  rw [← Nat.pow_add] at h3
  have h4:2 ^ (32 * (limbs (val xs * val ys)).length) ≤ 2 ^ (bitsL xs - 1 + (bitsL ys - 1)):=Nat.pow_le_pow_right (by decide) (by omega)
  exact absurd (Nat.lt_of_lt_of_le hlt (Nat.le_trans h4 h3)) (Nat.lt_irrefl _)

theorem bitsL_le {xs:List Nat} (ox:Ok xs) (h:xs.length ≤ 2048):bitsL xs ≤ 100000:=by
 have hb:=ox.getD (xs.length - 1)
 have:Lib.bitLen (xs.getD (xs.length - 1) 0) ≤ 64:=Lib.bitLen_le _ 64 (by omega) (by omega)
 unfold bitsL
 omega

def mulL (xs ys:List Nat):List Nat × Int:=if MayL xs && MayL ys then fitL (val xs * val ys) else ([],20)

set_option maxHeartbeats 4000000 in
theorem nmul_of (a1 a2:Option Addr) (n1 c1 n2 c2:Nat) (xs ys:List Nat) (w:World) (h1:Sl w a1 n1 c1 xs) (h2:Sl w a2 n2 c2 ys) (ox:Ok xs) (oy:Ok ys)
  (KMul:MayL xs = true → MayL ys = true → Calls Tryz.prog 86 #[.slice a1 n1 c1,.slice a2 n2 c2] w fun e w' => NewRep w w' (val xs * val ys) e) :
  Calls Tryz.prog 59 #[.slice a1 n1 c1,.slice a2 n2 c2] w fun e w' => Res2 w w' (mulL xs ys) e:=by
 have K1:=may_any a1 n1 c1 xs w h1
 have K2:=may_any a2 n2 c2 ys w h2
 by_cases m1:MayL xs = true
 ·by_cases m2:MayL ys = true
  ·rw [m1] at K1; rw [m2] at K2
   have K1':=Hj K1
   have K2':=Hj K2
   have nx:=MayL.norm m1
   have ny:=MayL.norm m2
   have hl1:n1 ≤ 2048:=by have:=h1.len; have:=MayL.len m1; omega
   have hl2:n2 ≤ 2048:=by have:=h2.len; have:=MayL.len m2; omega
   have HC:=Hj (show mulL xs ys = fitL (val xs * val ys) from by simp [mulL,m1,m2])
   have KX:=Hj (KMul m1 m2)
   by_cases z1:n1 = 0
   ·have t1:¬ (0:Int) < (n1:Int):=by omega
    clear K1 K2 m1 m2 h1 h2 ox oy nx ny KMul z1
    go_enter Tryz.func59,Tryz.ntmps59
    go_wp2_with fail
    refine (Uh K1').mono ?_
    rintro e w' ⟨rfl,hw⟩
    obtain rfl:=hw.symm
    go_wp2_with fail
    refine (Uh K2').mono ?_
    rintro e w' ⟨rfl,hw⟩
    obtain rfl:=hw.symm
    go_wp2_with fail
    refine (Uh KX).mono ?_
    rintro e w1 ⟨a',m,zs,rfl,hs,hr,ha,hb⟩
    have K4:=Hj (fit_any a' m m _ zs w1 hs hr)
    have HA:=Hj ha
    have HB:=Hj hb
    clear hs hr ha hb KX
    go_wp2_with fail
    refine (Uh K4).mono ?_
    rintro e w2 ⟨a2',m2,c2',rfl,hs2,ha2,rfl⟩
    go_wp2
    go_ret2
    rw [Uh HC]
    refine ⟨a2',m2,c2',rfl,hs2,?_,Uh HB⟩
    rcases ha2 with rfl | rfl
    ·exact Uh HA
    ·exact newAt_nil _
   ·have t1:(0:Int) < (n1:Int):=by omega
    by_cases z2:n2 = 0
    ·have t2:¬ (0:Int) < (n2:Int):=by omega
     clear K1 K2 m1 m2 h1 h2 ox oy nx ny KMul z1 z2
     go_enter Tryz.func59,Tryz.ntmps59
     go_wp2_with fail
     refine (Uh K1').mono ?_
     rintro e w' ⟨rfl,hw⟩
     obtain rfl:=hw.symm
     go_wp2_with fail
     refine (Uh K2').mono ?_
     rintro e w' ⟨rfl,hw⟩
     obtain rfl:=hw.symm
     go_wp2_with fail
     refine (Uh KX).mono ?_
     rintro e w1 ⟨a',m,zs,rfl,hs,hr,ha,hb⟩
     have K4:=Hj (fit_any a' m m _ zs w1 hs hr)
     have HA:=Hj ha
     have HB:=Hj hb
     clear hs hr ha hb KX
     go_wp2_with fail
     refine (Uh K4).mono ?_
     rintro e w2 ⟨a2',m2,c2',rfl,hs2,ha2,rfl⟩
     go_wp2
     go_ret2
     rw [Uh HC]
     refine ⟨a2',m2,c2',rfl,hs2,?_,Uh HB⟩
     rcases ha2 with rfl | rfl
     ·exact Uh HA
     ·exact newAt_nil _
    ·have t2:(0:Int) < (n2:Int):=by omega
     have e1:xs ≠ []:=by intro e; have:=h1.len; rw [e] at this; simp at this; omega
     have e2:ys ≠ []:=by intro e; have:=h2.len; rw [e] at this; simp at this; omega
     have KB1:=Hj (bitLen_any a1 n1 c1 xs w h1 ox e1 (by omega))
     have KB2:=Hj (bitLen_any a2 n2 c2 ys w h2 oy e2 (by omega))
     have hg1:bitsL xs ≤ 100000:=bitsL_le ox (by rw [h1.len]; omega)
     have hg2:bitsL ys ≤ 100000:=bitsL_le oy (by rw [h2.len]; omega)
     by_cases big:65536 < bitsL xs + bitsL ys - 1
     ·have hbig:=fitL_big (big_of_bits ox oy nx ny e1 e2 big)
      rw [hbig] at HC
      have t3:(65536:Int) < ((bitsL xs:Nat):Int) + ((bitsL ys:Nat):Int) - 1:=by omega
      generalize bitsL xs = u1 at *
      generalize bitsL ys = u2 at *
      clear K1 K2 m1 m2 h1 h2 ox oy nx ny KMul z1 z2 e1 e2 hbig big
      go_enter Tryz.func59,Tryz.ntmps59
      go_wp2_with fail
      refine (Uh K1').mono ?_
      rintro e w' ⟨rfl,hw⟩
      obtain rfl:=hw.symm
      go_wp2_with fail
      refine (Uh K2').mono ?_
      rintro e w' ⟨rfl,hw⟩
      obtain rfl:=hw.symm
      go_wp2_with fail
      refine (Uh KB1).mono ?_
      rintro e w' ⟨rfl,hw⟩
      obtain rfl:=hw.symm
      go_wp2_with fail
      refine (Uh KB2).mono ?_
      rintro e w' ⟨rfl,hw⟩
      obtain rfl:=hw.symm
      go_wp2
      go_ret2
      rw [Uh HC]
      exact ⟨none,0,0,rfl,sl_nil _,newAt_nil _,Below.refl _ _⟩
     ·have t3:¬ (65536:Int) < ((bitsL xs:Nat):Int) + ((bitsL ys:Nat):Int) - 1:=by omega
      generalize bitsL xs = u1 at *
      generalize bitsL ys = u2 at *
      clear K1 K2 m1 m2 h1 h2 ox oy nx ny KMul z1 z2 e1 e2 big
      go_enter Tryz.func59,Tryz.ntmps59
      go_wp2_with fail
      refine (Uh K1').mono ?_
      rintro e w' ⟨rfl,hw⟩
      obtain rfl:=hw.symm
      go_wp2_with fail
      refine (Uh K2').mono ?_
      rintro e w' ⟨rfl,hw⟩
      obtain rfl:=hw.symm
      go_wp2_with fail
      refine (Uh KB1).mono ?_
      rintro e w' ⟨rfl,hw⟩
      obtain rfl:=hw.symm
      go_wp2_with fail
      refine (Uh KB2).mono ?_
      rintro e w' ⟨rfl,hw⟩
      obtain rfl:=hw.symm
      go_wp2_with fail
      refine (Uh KX).mono ?_
      rintro e w1 ⟨a',m,zs,rfl,hs,hr,ha,hb⟩
      have K4:=Hj (fit_any a' m m _ zs w1 hs hr)
      have HA:=Hj ha
      have HB:=Hj hb
      clear hs hr ha hb KX
      go_wp2_with fail
      refine (Uh K4).mono ?_
      rintro e w2 ⟨a2',m2,c2',rfl,hs2,ha2,rfl⟩
      go_wp2
      go_ret2
      rw [Uh HC]
      refine ⟨a2',m2,c2',rfl,hs2,?_,Uh HB⟩
      rcases ha2 with rfl | rfl
      ·exact Uh HA
      ·exact newAt_nil _
  ·have m2':MayL ys = false:=by simpa using m2
   rw [m1] at K1; rw [m2'] at K2
   have K1':=Hj K1
   have K2':=Hj K2
   have HC:=Hj (show mulL xs ys = ([],20) from by simp [mulL,m2'])
   clear K1 K2 m1 m2 m2' h1 h2 ox oy
   go_enter Tryz.func59,Tryz.ntmps59
   go_wp2_with fail
   refine (Uh K1').mono ?_
   rintro e w' ⟨rfl,hw⟩
   obtain rfl:=hw.symm
   go_wp2_with fail
   refine (Uh K2').mono ?_
   rintro e w' ⟨rfl,hw⟩
   obtain rfl:=hw.symm
   go_wp2
   go_ret2
   rw [Uh HC]
   exact ⟨none,0,0,rfl,sl_nil _,newAt_nil _,Below.refl _ _⟩
 ·have m1':MayL xs = false:=by simpa using m1
  rw [m1'] at K1
  have K1':=Hj K1
  have HC:=Hj (show mulL xs ys = ([],20) from by simp [mulL,m1'])
  clear K1 K2 m1 m1' h1 h2 ox oy
  go_enter Tryz.func59,Tryz.ntmps59
  go_wp2_with fail
  refine (Uh K1').mono ?_
  rintro e w' ⟨rfl,hw⟩
  obtain rfl:=hw.symm
  go_wp2
  go_ret2
  rw [Uh HC]
  exact ⟨none,0,0,rfl,sl_nil _,newAt_nil _,Below.refl _ _⟩
def MI (N:Nat):Prop:=∀ (w:World) (bz oz nz cz:Nat) (a1:Option Addr) (n1 c1:Nat) (xs:List Nat) (a2:Option Addr) (n2 c2:Nat) (ys:List Nat),n1 + n2 ≤ N → MulPre w bz oz nz cz a1 n1 c1 xs a2 n2 c2 ys →
 Calls Tryz.prog 100 #[.slice (some ⟨bz,oz,none⟩) nz cz,.slice a1 n1 c1,.slice a2 n2 c2] w fun e w' => MulPost w bz oz nz (val xs * val ys) e w'

theorem Fn.below {w w':World} {b off n:Nat} {f:Nat → Nat} (h:Fn w b off n f) (k:Below w.heap.size w w'):Fn w' b off n f:=by
 intro i hi
 have:=h i hi
 have hlt:=World.block_lt_of_cell? _ _ this.1
 exact ⟨(k.cell hlt).trans this.1,(k.frozen hlt).trans this.2⟩

theorem Fn.part {w:World} {b off n:Nat} {f:Nat → Nat} (h:Fn w b off n f) (k m:Nat) (hm:k + m ≤ n):Fn w b (off + k) m (fun i => f (k + i)):=by
 intro i hi
 have:=h (k + i) (by omega)
 rw [← Nat.add_assoc] at this
 exact this

theorem Fn.join {w:World} {b off k m:Nat} {f g:Nat → Nat} (h1:Fn w b off k f) (h2:Fn w b (off + k) m g):Fn w b off (k + m) (fun i => if i < k then f i else g (i - k)):=by
 intro i hi
 by_cases e:i < k
 ·simp only [e,if_true]; exact h1 i e
 ·simp only [e,if_false]
  have:=h2 (i - k) (by omega)
  rw [show off + k + (i - k) = off + i from by omega] at this
  exact this

theorem valF_join (f g:Nat → Nat) (k m:Nat):valF (fun i => if i < k then f i else g (i - k)) (k + m) = valF f k + 4294967296 ^ k * valF g m:=by
 rw [valF_add,valF_congr (g:=f) (fun i hi => by simp [hi]),valF_congr (f:=fun j => if k + j < k then f (k + j) else g (k + j - k)) (g:=g) (fun i hi => by rw [if_neg (by omega),Nat.add_sub_cancel_left])]

theorem rep_len_le {v j:Nat} {zs:List Nat} (h:Rep v zs) (hv:v < 4294967296 ^ j):zs.length ≤ j:=by
 rcases Nat.lt_or_ge j zs.length with hlt | hge
 ·exfalso
  have h1:=val_ge_of_norm h.norm (by intro e; subst e; simp at hlt)
  rw [h.val] at h1
  have h2:4294967296 ^ j ≤ 4294967296 ^ (zs.length - 1):=pow_mono (by omega)
  omega
 ·exact hge

theorem carry_zero {x y P c:Nat} (h:x + P * c = y) (hy:y < P):c = 0 ∧ x = y:=by
 rcases Nat.eq_zero_or_pos c with h0 | h0
 ·subst h0; simp at h; exact ⟨rfl,h⟩
 ·exfalso
  have:P * 1 ≤ P * c:=Nat.mul_le_mul_left _ h0
  omega

structure PieceR (wr w:World) (bz oz nz:Nat) (xs ys:List Nat) (k:Nat) (f:Nat → Nat):Prop where
 fn:Fn wr bz oz nz f
 ok:∀ i,i < nz → f i < 4294967296
 vl:valF f nz = val (xs.take k) * val ys
 upd:Upd bz oz (oz + nz) w wr

theorem take_lt {xs:List Nat} (ox:Ok xs) (t:Nat) (h:t ≤ xs.length):val (xs.take t) < 4294967296 ^ t:=by
 have:=val_lt (ox.take t)
 rwa [List.length_take,Nat.min_eq_left h] at this

theorem take_split (xs:List Nat) (k p:Nat) (h:k + p ≤ xs.length):val (xs.take (k + p)) = val (xs.take k) + 4294967296 ^ k * val ((xs.drop k).take p):=by
 rw [List.take_add,val_append,List.length_take,Nat.min_eq_left (by omega)]

theorem PieceR.step {wr w w5 w6:World} {bz oz nz n1 n2:Nat} {xs ys:List Nat} {k p k' c:Nat} {f f':Nat → Nat} (h:PieceR wr w bz oz nz xs ys k f) (hl1:xs.length = n1) (hl2:ys.length = n2) (hnz:n1 + n2 = nz) (ox:Ok xs) (oy:Ok ys) (hp:k + p ≤ n1)
  (hk':xs.take k' = xs.take (k + p)) (bz5:bz < wr.heap.size) (b5:Below wr.heap.size wr w5) (hF:Fn w6 bz (oz + k) (nz - k) f') (hok:∀ i,i < nz - k → f' i < 4294967296)
  (hval:valF f' (nz - k) + 4294967296 ^ (nz - k) * c = valF (fun i => f (k + i)) (nz - k) + val ((xs.drop k).take p) * val ys) (hupd:Upd bz (oz + k) (oz + k + (nz - k)) w5 w6) :
  ∃ g,PieceR w6 w bz oz nz xs ys k' g:=by
 have hkn:k + (nz - k) = nz:=by omega
 have u1:Upd bz oz (oz + nz) wr w5:=.of_below bz5 b5
 have u2:Upd bz oz (oz + nz) w5 w6:=hupd.mono (by omega) (by omega)
 have fl:Fn w6 bz oz k f:=by
  have:=((h.fn.below b5).part 0 k (by omega))
  simp only [Nat.zero_add,Nat.add_zero] at this
  exact hupd.fn this (.inr (.inl (by omega)))
 have hj:=Fn.join fl hF
 rw [hkn] at hj
 refine ⟨_,hj,?_,?_,(h.upd.trans u1).trans u2⟩
 ·intro i hi
  by_cases e:i < k
  ·simp only [e,if_true]; exact h.ok i hi
  ·simp only [e,if_false]; exact hok _ (by omega)
 ·have e1:=valF_join f f' k (nz - k)
  rw [hkn] at e1
  rw [e1,hk',take_split xs k p (by omega)]
  have e2:=valF_add f k (nz - k)
  rw [hkn,h.vl] at e2
  have e3:valF f k + 4294967296 ^ k * valF f' (nz - k) + 4294967296 ^ nz * c = (val (xs.take k) + 4294967296 ^ k * val ((xs.drop k).take p)) * val ys:=by
   have e4:4294967296 ^ nz * c = 4294967296 ^ k * (4294967296 ^ (nz - k) * c):=by rw [← Nat.mul_assoc,← Nat.pow_add,hkn]
   rw [e4,Nat.add_assoc,← Nat.mul_add,hval,Nat.mul_add,← Nat.add_assoc,← e2,Nat.add_mul,Nat.mul_assoc]
  have hlt:(val (xs.take k) + 4294967296 ^ k * val ((xs.drop k).take p)) * val ys < 4294967296 ^ nz:=by
   rw [← take_split xs k p (by omega)]
   have a1:=take_lt ox (k + p) (by omega)
   have a2:=val_lt oy
   have a3:4294967296 ^ (k + p) ≤ 4294967296 ^ n1:=pow_mono hp
   rw [← hnz,Nat.pow_add,← hl2]
   exact Nat.mul_lt_mul_of_lt_of_le (by omega) (by omega) (pow_pos _)
  exact (carry_zero e3 hlt).2
theorem and_m2 (x y:Nat):(x &&& y) % 2 = (x % 2) * (y % 2):=by
 have h:=@Nat.and_mod_two_eq_one x y
 rcases Nat.mod_two_eq_zero_or_one x with a | a <;> rcases Nat.mod_two_eq_zero_or_one y with b | b <;> rw [a,b] at h ⊢ <;> omega
theorem and_not_add:∀ (f x y:Nat),x < 2 ^ f → y < 2 ^ f → (x &&& y) + (x &&& (2 ^ f - 1 - y)) = x
 | 0,x,y,hx,hy => by simp at hx hy; subst hx; subst hy; rfl
 | f + 1,x,y,hx,hy => by
  have hp:2 ^ (f + 1) = 2 * 2 ^ f:=by rw [Nat.pow_succ,Nat.mul_comm]
  have h0:=Nat.two_pow_pos f
  rw [hp] at hx hy ⊢
  have h:=and_not_add f (x / 2) (y / 2) (by omega) (by omega)
  have e1:(2 * 2 ^ f - 1 - y) / 2 = 2 ^ f - 1 - y / 2:=by omega
  have e2:(2 * 2 ^ f - 1 - y) % 2 = 1 - y % 2:=by omega
  rw [← e1,← Nat.and_div_two,← Nat.and_div_two] at h
  have a:=and_m2 x y
  have b:=and_m2 x (2 * 2 ^ f - 1 - y)
  rw [e2] at b
  generalize 2 * 2 ^ f - 1 - y = z at *
  have c:(x % 2) * (y % 2) + (x % 2) * (1 - y % 2) = x % 2:=by
   rcases Nat.mod_two_eq_zero_or_one y with d | d <;> rw [d] <;> omega
  omega
theorem valF_digit {f:Nat → Nat} {n l:Nat} (ok:∀ i,i < n → f i < 4294967296) (hl:l < n):f l = valF f n / 4294967296 ^ l % 4294967296:=by
 have:=val_drop (lst_ok ok) l
 rw [lst_val] at this
 rw [← this,val_drop_step,lst_getD f n l hl]
 have:=ok l hl
 omega
theorem tz_and:∀ (f x:Nat),0 < x → x < 2 ^ f → x &&& (2 ^ f - x) = 2 ^ Lib.ntzAux f x
 | 0,x,h0,h => by simp at h; omega
 | f + 1,x,h0,h => by
  have hp:2 ^ (f + 1) = 2 * 2 ^ f:=by rw [Nat.pow_succ,Nat.mul_comm]
  have hq:=Nat.two_pow_pos f
  rw [hp] at h ⊢
  have hd:=Nat.div_add_mod (x &&& (2 * 2 ^ f - x)) 2
  have hm:=and_m2 x (2 * 2 ^ f - x)
  rw [Nat.and_div_two] at hd
  simp only [Lib.ntzAux]
  rcases Nat.mod_two_eq_zero_or_one x with e | e
  ·rw [if_neg (by omega)]
   have e1:(2 * 2 ^ f - x) / 2 = 2 ^ f - x / 2:=by omega
   rw [e1,tz_and f (x / 2) (by omega) (by omega)] at hd
   rw [e,Nat.zero_mul] at hm
   rw [show 1 + Lib.ntzAux f (x / 2) = Lib.ntzAux f (x / 2) + 1 from by omega,Nat.pow_succ]
   omega
  ·rw [if_pos e]
   have e1:(2 * 2 ^ f - x) / 2 = 2 ^ f - 1 - x / 2:=by omega
   have e2:(2 * 2 ^ f - x) % 2 = 1:=by omega
   have e3:=and_not_add f (x / 2) (x / 2) (by omega) (by omega)
   rw [Nat.and_self] at e3
   rw [e1] at hd
   rw [e,e2] at hm
   simp only [Nat.pow_zero]
   omega

theorem tz_lt:∀ (f x:Nat),0 < x → x < 2 ^ f → Lib.ntzAux f x < f
 | 0,x,h0,h => by simp at h; omega
 | f + 1,x,h0,h => by
  rw [Nat.pow_succ] at h
  simp only [Lib.ntzAux]
  split
  ·omega
  ·have:=tz_lt f (x / 2) (by omega) (by omega)
   omega

theorem tz_bit:∀ (f x:Nat),0 < x → x < 2 ^ f → x / 2 ^ Lib.ntzAux f x % 2 = 1 ∧ ∀ s,s < Lib.ntzAux f x → x / 2 ^ s % 2 = 0
 | 0,x,h0,h => by simp at h; omega
 | f + 1,x,h0,h => by
  rw [Nat.pow_succ] at h
  simp only [Lib.ntzAux]
  split
  ·rename_i e
   exact ⟨by simpa using e,fun s hs => by omega⟩
  ·rename_i e
   have:=tz_bit f (x / 2) (by omega) (by omega)
   refine ⟨?_,?_⟩
   ·rw [show 1 + Lib.ntzAux f (x / 2) = Lib.ntzAux f (x / 2) + 1 from by omega,Nat.pow_succ,Nat.mul_comm,← Nat.div_div_eq_div_mul]
    exact this.1
   ·intro s hs
    cases s with
    | zero => simp; omega
    | succ s =>
     rw [Nat.pow_succ,Nat.mul_comm,← Nat.div_div_eq_div_mul]
     exact this.2 s (by omega)

theorem p32:(2:Nat) ^ 32 = 4294967296:=by decide
theorem bl_lt:∀ (n x:Nat),x ≤ n → x < 18446744073709551616 → x < 2 ^ Lib.bitLen x
 | 0,x,h,hx => by
  have e:x = 0:=by omega
  subst e
  decide +kernel
 | n + 1,x,h,hx => by
  by_cases h0:x = 0
  ·subst h0; decide +kernel
  ·have ih:=bl_lt n (x / 2) (by omega) (by omega)
   rw [Lib.bitLen_half x h0 hx,Nat.add_comm 1,Nat.pow_succ]
   omega

theorem take_lt_pow {xs:List Nat} (ox:Ok xs) (t:Nat) (h:t ≤ xs.length):val (xs.take t) < 4294967296 ^ t:=by
 have:=val_lt (ox.take t)
 rwa [List.length_take,Nat.min_eq_left h] at this

def bitsN (xs:List Nat):Nat:=if xs = [] then 0 else bitsL xs

theorem val_lt_bits {xs:List Nat} (ox:Ok xs):val xs < 2 ^ bitsN xs:=by
 unfold bitsN
 by_cases h0:xs = []
 ·subst h0; simp [val]
 ·rw [if_neg h0]
  have hp:0 < xs.length:=List.length_pos_iff.2 h0
  have hb:=ox.getD (xs.length - 1)
  have h2:=bl_lt _ _ (Nat.le_refl (xs.getD (xs.length - 1) 0)) (by omega)
  rw [val_split xs (xs.length - 1) (by omega),drop_cons (by omega)]
  have e:xs.drop (xs.length - 1 + 1) = []:=List.drop_eq_nil_of_le (by omega)
  rw [e]
  simp only [val]
  unfold bitsL
  rw [Nat.pow_add,Nat.mul_comm _ 32,← pow_limb,Nat.mul_zero,Nat.add_zero]
  have h1:=take_lt_pow ox (xs.length - 1) (by omega)
  have h3:4294967296 ^ (xs.length - 1) * (xs.getD (xs.length - 1) 0 + 1) ≤ 4294967296 ^ (xs.length - 1) * 2 ^ Lib.bitLen (xs.getD (xs.length - 1) 0):=Nat.mul_le_mul_left _ h2
  rw [Nat.mul_add,Nat.mul_one] at h3
  omega

theorem bitsN_le {xs:List Nat} (ox:Ok xs) (h:xs.length ≤ 2048):bitsN xs ≤ 100000:=by
 unfold bitsN
 split
 ·omega
 ·exact bitsL_le ox h

set_option maxHeartbeats 800000 in
theorem bitLen_nil (a:Option Addr) (c:Nat) (w:World) :
  Calls Tryz.prog 84 #[.slice a 0 c] w fun e w' => e = .returned (.int .i64 0) ∧ w' = w:=by
 go_enter Tryz.func84,Tryz.ntmps84
 go_wp2
 go_ret
 exact ⟨rfl,rfl⟩

theorem bitLen_all (a:Option Addr) (n c:Nat) (xs:List Nat) (w:World) (h:Sl w a n c xs) (ok:Ok xs) (hn:n ≤ 1000000000000) :
  Calls Tryz.prog 84 #[.slice a n c] w fun e w' => e = .returned (.int .i64 (bitsN xs:Nat)) ∧ w' = w:=by
 by_cases h0:xs = []
 ·have hl:=h.len
  subst h0
  simp at hl
  subst hl
  have:(bitsN []:Nat) = 0:=by simp [bitsN]
  rw [this]
  exact bitLen_nil a c w
 ·have e:bitsN xs = bitsL xs:=by simp [bitsN,h0]
  rw [e]
  exact bitLen_any a n c xs w h ok h0 hn
def bitN (v i:Nat):Nat:=v / 2 ^ i % 2
theorem bitN_lt (v i:Nat):bitN v i < 2:=Nat.mod_lt _ (by decide)

theorem bit_limb {xs:List Nat} (ox:Ok xs) {i l s:Nat} (hl:i / 32 = l) (hs:i % 32 = s):bitN (val xs) i = xs.getD l 0 / 2 ^ s % 2:=by
 have hi:i = 32 * l + s:=by omega
 have hs32:s < 32:=by omega
 have hp:=pow_split hs32
 have hpos:=(pow_s hs32).1
 have e3:=val_drop ox l
 have e1:=val_drop_step xs l
 unfold bitN
 rw [hi,Nat.pow_add,← pow_limb,← Nat.div_div_eq_div_mul,← e3,e1]
 generalize xs.getD l 0 = x
 generalize val (xs.drop (l + 1)) = r
 have e4:x + 4294967296 * r = x + 2 ^ s * (2 * (2 ^ (31 - s) * r)):=by
  have:2 ^ s * (2 * (2 ^ (31 - s) * r)) = 4294967296 * r:=by
   rw [← hp,show 32 - s = 31 - s + 1 from by omega,Nat.pow_succ,Nat.mul_comm (2 ^ (31 - s)) 2,← Nat.mul_assoc 2,Nat.mul_assoc (2 ^ s)]
  omega
 rw [e4,Nat.add_mul_div_left _ _ (by omega),Nat.add_mul_mod_self_left]

theorem and_one (y:Nat) (hy:y < 4294967296):bits .and .u32 (y:Int) 1 = ((y % 2:Nat):Int):=by
 have:=u32_and_nat y 1 hy (by decide)
 rw [Nat.and_one_is_mod] at this
 exact this

theorem shr_lt {x s:Nat} (hx:x < 4294967296):x / 2 ^ s < 4294967296:=Nat.lt_of_le_of_lt (Nat.div_le_self _ _) hx

set_option maxHeartbeats 1000000 in
theorem rbit_in (b off n c:Nat) (x i l s:Nat) (w:World) (hn:n ≤ 2048) (hl:(i:Int) / 32 = (l:Int)) (hs:(i:Int) % 32 = (s:Int)) (hs32:s < 32) (hln:l < n) (hi:i ≤ 9223372036854775807) (hx:x < 4294967296) (hc:w.cell? ⟨b,off + l,none⟩ = some (.int .u32 (x:Nat)))
  (KM:Calls Tryz.prog 71 #[.slice (some ⟨b,off,none⟩) n c] w fun e w' => e = .returned (.bool true) ∧ w' = w) :
  Calls Tryz.prog 75 #[.slice (some ⟨b,off,none⟩) n c,.int .i64 (i:Nat)] w fun e w' => e = .returned (.int .i64 ((x / 2 ^ s % 2:Nat):Int)) ∧ w' = w:=by
 have KM':=Hj KM
 have hl2:(i:Int).tdiv 32 = (l:Int):=by rw [Int.tdiv_eq_ediv_of_nonneg (by omega)]; exact hl
 have hs2:(i:Int).tmod 32 = (s:Int):=by rw [Int.tmod_eq_emod_of_nonneg (by omega)]; exact hs
 have t1:(l:Int) < (n:Int):=by omega
 have t2:¬ (n:Int) ≤ (l:Int):=by omega
 have hy:=shr_lt (s:=s) hx
 have e1:(x:Int) / 2 ^ s = ((x / 2 ^ s:Nat):Int):=by rw [Int.natCast_ediv,Int.natCast_pow]; rfl
 have e2:=and_one _ hy
 generalize x / 2 ^ s = y at *
 have hy2:y % 2 < 2:=Nat.mod_lt _ (by decide)
 generalize y % 2 = z at *
 clear KM
 go_enter Tryz.func75,Tryz.ntmps75
 go_wp2_with fail
 refine (Uh KM').mono ?_
 rintro e w' ⟨rfl,hw⟩
 obtain rfl:=hw.symm
 go_wp2
 go_ret
 exact ⟨rfl,rfl⟩

set_option maxHeartbeats 1000000 in
theorem rbit_out (a:Option Addr) (n c i l:Nat) (w:World) (hl:(i:Int) / 32 = (l:Int)) (hi:i ≤ 9223372036854775807) (hn:n ≤ 2048) (hln:n ≤ l)
  (KM:Calls Tryz.prog 71 #[.slice a n c] w fun e w' => e = .returned (.bool true) ∧ w' = w) :
  Calls Tryz.prog 75 #[.slice a n c,.int .i64 (i:Nat)] w fun e w' => e = .returned (.int .i64 0) ∧ w' = w:=by
 have KM':=Hj KM
 have hl2:(i:Int).tdiv 32 = (l:Int):=by rw [Int.tdiv_eq_ediv_of_nonneg (by omega)]; exact hl
 have t2:(n:Int) ≤ (l:Int):=by omega
 clear KM
 go_enter Tryz.func75,Tryz.ntmps75
 go_wp2_with fail
 refine (Uh KM').mono ?_
 rintro e w' ⟨rfl,hw⟩
 obtain rfl:=hw.symm
 go_wp2
 go_ret
 exact ⟨rfl,rfl⟩

theorem rbit_any (a:Option Addr) (n c:Nat) (xs:List Nat) (w:World) (i:Nat) (h:Sl w a n c xs) (ox:Ok xs) (m:MayL xs = true) (hi:i ≤ 9223372036854775807) :
  Calls Tryz.prog 75 #[.slice a n c,.int .i64 (i:Nat)] w fun e w' => e = .returned (.int .i64 (bitN (val xs) i:Nat)) ∧ w' = w:=by
 have KM:=rmay_any a n c xs w h
 rw [m] at KM
 have hl:=h.len
 have hm:=MayL.len m
 rw [bit_limb ox rfl rfl]
 by_cases hln:i / 32 < n
 ·have hx:xs ≠ []:=by intro e; rw [e] at hl; simp at hl; omega
  obtain ⟨b,off,rfl,hc⟩:=h.cells.resolve_left hx
  exact rbit_in b off n c _ i (i / 32) (i % 32) w (by omega) (by omega) (by omega) (by omega) hln hi (ox.getD _) (hc _ (by omega)) KM
 ·rw [getD_ge (by omega)]
  simp only [Nat.zero_div,Nat.zero_mod]
  exact rbit_out a n c i (i / 32) w (by omega) hi (by omega) (by omega) KM

theorem bits_unique {xs:List Nat} (ox:Ok xs) (nx:Norm xs) {k:Nat} (h1:2 ^ k ≤ val xs) (h2:val xs < 2 ^ (k + 1)):bitsN xs = k + 1:=by
 have a:=val_lt_bits ox
 have h0:xs ≠ []:=by
  intro e; subst e
  have:0 < 2 ^ k:=Nat.pow_pos (by decide)
  simp [val] at h1
 have b:=val_ge_bits ox nx h0
 have e:bitsN xs = bitsL xs:=by simp [bitsN,h0]
 rw [e] at a ⊢
 have c1:2 ^ k < 2 ^ bitsL xs:=by omega
 have c2:2 ^ (bitsL xs - 1) < 2 ^ (k + 1):=by omega
 have d1:k < bitsL xs:=(Nat.pow_lt_pow_iff_right (by decide)).1 c1
 have d2:bitsL xs - 1 < k + 1:=(Nat.pow_lt_pow_iff_right (by decide)).1 c2
 omega

theorem bit_zero {v k:Nat} (h:v < 2 ^ (k + 1)) (hb:bitN v k = 0):v < 2 ^ k:=by
 unfold bitN at hb
 have hp:0 < 2 ^ k:=Nat.pow_pos (by decide)
 rw [Nat.pow_succ,Nat.mul_comm] at h
 have h1:v / 2 ^ k < 2:=(Nat.div_lt_iff_lt_mul hp).2 h
 have h2:v / 2 ^ k = 0:=by
  generalize v / 2 ^ k = t at *
  omega
 rcases Nat.lt_or_ge v (2 ^ k) with h3 | h3
 ·exact h3
 ·have:=(Nat.le_div_iff_mul_le hp).2 (by rw [Nat.one_mul]; exact h3)
  omega

theorem bit_one {v k:Nat} (hb:bitN v k ≠ 0):2 ^ k ≤ v:=by
 unfold bitN at hb
 have hp:0 < 2 ^ k:=Nat.pow_pos (by decide)
 rcases Nat.lt_or_ge v (2 ^ k) with h3 | h3
 ·rw [Nat.div_eq_of_lt h3] at hb; exact absurd rfl hb
 ·exact h3

set_option maxHeartbeats 2000000 in
theorem rbits_any (a:Option Addr) (n c:Nat) (xs:List Nat) (w:World) (h:Sl w a n c xs) (ox:Ok xs) (m:MayL xs = true) :
  Calls Tryz.prog 72 #[.slice a n c] w fun e w' => e = .returned (.int .i64 (bitsN xs:Nat)) ∧ w' = w:=by
 have KM:=rmay_any a n c xs w h
 rw [m] at KM
 have hn:n ≤ 2048:=by have:=h.len; have:=MayL.len m; omega
 have KB:=Hj (fun i hi => rbit_any a n c xs w i h ox m hi)
 have KM':=Hj KM
 have NX:=Hj (MayL.norm m)
 have h0:val xs < 2 ^ (32 * n):=by
  have:=val_lt ox
  rwa [h.len,pow_limb] at this
 have H0:=Hj h0
 clear KM h m h0
 go_enter Tryz.func72,Tryz.ntmps72
 go_wp2_with fail
 refine (Uh KM').mono ?_
 rintro e w' ⟨rfl,hw⟩
 obtain rfl:=hw.symm
 clear hw
 go_wp2_with fail
 go_loop [3] (fun i => ∃ k:Nat,k ≤ 32 * n ∧ i = .int .i64 ((k:Int) - 1) ∧ Hid (val xs < 2 ^ k)) (fun i => (intOf i + 1).toNat)
 case atStart => exact ⟨32 * n,Nat.le_refl _,by go_num,Uh H0⟩
 case round =>
  clear H0
  obtain ⟨k,hk,rfl,HV⟩:=hrel
  rcases k with _ | k
  ·have t1:¬ (0:Int) ≤ ((0:Nat):Int) - 1:=by omega
   go_wp2
   go_ret
   refine ⟨?_,rfl⟩
   have hz:val xs = 0:=by have:=Uh HV; simp at this; exact this
   have hx:xs = []:=by
    rcases Classical.em (xs = []) with e | e
    ·exact e
    ·exact absurd hz (val_ne (Uh NX) e)
   have:bitsN xs = 0:=by simp [bitsN,hx]
   rw [this]; rfl
  ·have t0:((k + 1:Nat):Int) - 1 = (k:Int):=by omega
   rw [t0]
   have K:=Hj (Uh KB k (by omega))
   have hb2:=bitN_lt (val xs) k
   by_cases hb:bitN (val xs) k = 0
   ·have HN:=Hj (bit_zero (Uh HV) hb)
    rw [hb] at K
    clear hb hb2
    go_wp2_with fail
    refine (Uh K).mono ?_
    rintro e w' ⟨rfl,hw⟩
    obtain rfl:=hw.symm
    go_wp2
    exact ⟨⟨k,by omega,rfl,HN⟩,by simp [intOf]⟩
   ·have HU:=Hj (bits_unique ox (Uh NX) (bit_one hb) (Uh HV))
    have hb1:bitN (val xs) k = 1:=by omega
    rw [hb1] at K
    clear hb hb2 hb1
    go_wp2_with fail
    refine (Uh K).mono ?_
    rintro e w' ⟨rfl,hw⟩
    obtain rfl:=hw.symm
    go_wp2
    go_ret
    rw [Uh HU]
    exact ⟨rfl,rfl⟩
end Go.Proofs.YtjoaijbhpgekoaaGreatDoor
