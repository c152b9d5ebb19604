/- Len -/
import Derived.Test.YtmnlhnmlgncedaaGreatDoorBase
import Derived.Lib.BitFns
import Derived.Test.YtmnlhnmlgncedaaGreatDoorMul
namespace Go.Proofs.YtmnlhnmlgncedaaGreatDoor
open Go.RowKit Go.Deep
set_option linter.unusedVariables false
theorem tab_size:Lib.len8tab.size = 256:=by decide +kernel
theorem tab_all:∀ n:Fin 256,(Lib.len8tab[n.val]'(by rw [tab_size]; exact n.isLt)).toNat = Lib.bitLen n.val:=by decide +kernel
theorem tab_at (n:Nat) (h:n < Lib.len8tab.size):(Lib.len8tab[n]'h).toNat = Lib.bitLen n:=tab_all ⟨n,by rw [tab_size] at h; exact h⟩
theorem bl8 (n:Nat) (h:n < 256):Lib.bitLen n ≤ 8:=Lib.bitLen_le8 ⟨n,h⟩
theorem wr_small (n:Int) (h0:0 ≤ n) (h1:n ≤ 100):wrap64 n = n:=by unfold wrap64; omega

set_option maxHeartbeats 4000000 in
set_option maxRecDepth 100000 in
theorem len32_a (x:Int) (w:World) (h0:0 ≤ x) (h1:x < 256) :
  Calls Tryz.prog 153 #[.int .u32 x] w fun e w' => e = .returned (.int .i64 (Lib.bitLen x.toNat)) ∧ w' = w:=by
 have hs:=tab_size
 have ha:¬ (65536:Int) ≤ x:=by omega
 have hb:¬ (256:Int) ≤ x:=by omega
 go_enter Tryz.func153,Tryz.ntmps153
 go_wp2
 go_ret
 refine ⟨congrArg Ending.returned (congrArg (Value.int IntKind.i64) ?_),rfl⟩
 rw [tab_at]
 have l:=bl8 x.toNat (by omega)
 rw [wr_small ((Lib.bitLen x.toNat:Nat):Int) (by omega) (by omega)]
 rw [wr_small ((Lib.bitLen x.toNat:Nat):Int) (by omega) (by omega)]

set_option maxHeartbeats 4000000 in
set_option maxRecDepth 100000 in
theorem len32_b (x:Int) (w:World) (h0:256 ≤ x) (h1:x < 65536) :
  Calls Tryz.prog 153 #[.int .u32 x] w fun e w' => e = .returned (.int .i64 (Lib.bitLen x.toNat)) ∧ w' = w:=by
 have hs:=tab_size
 have ha:¬ (65536:Int) ≤ x:=by omega
 have hb:(256:Int) ≤ x:=by omega
 go_enter Tryz.func153,Tryz.ntmps153
 go_wp2
 go_ret
 refine ⟨congrArg Ending.returned (congrArg (Value.int IntKind.i64) ?_),rfl⟩
 have e:(x / 256).toNat = x.toNat / 256:=by omega
 have l:=bl8 (x.toNat / 256) (by omega)
 have s:=Lib.bitLen_shift8 x.toNat (by omega) (by omega)
 rw [tab_at,e]
 rw [wr_small ((Lib.bitLen (x.toNat / 256):Nat):Int) (by omega) (by omega)]
 rw [wr_small _ (by omega) (by omega)]
 omega

set_option maxHeartbeats 4000000 in
set_option maxRecDepth 100000 in
theorem len32_c (x:Int) (w:World) (h0:65536 ≤ x) (h1:x < 16777216) :
  Calls Tryz.prog 153 #[.int .u32 x] w fun e w' => e = .returned (.int .i64 (Lib.bitLen x.toNat)) ∧ w' = w:=by
 have hs:=tab_size
 have ha:(65536:Int) ≤ x:=by omega
 have hb:¬ (256:Int) ≤ x / 65536:=by omega
 go_enter Tryz.func153,Tryz.ntmps153
 go_wp2
 go_ret
 refine ⟨congrArg Ending.returned (congrArg (Value.int IntKind.i64) ?_),rfl⟩
 have e:(x / 65536).toNat = x.toNat / 65536:=by omega
 have l:=bl8 (x.toNat / 65536) (by omega)
 have s:=Lib.bitLen_shift16 x.toNat (by omega) (by omega)
 rw [tab_at,e]
 rw [wr_small ((Lib.bitLen (x.toNat / 65536):Nat):Int) (by omega) (by omega)]
 rw [wr_small _ (by omega) (by omega)]
 omega

set_option maxHeartbeats 4000000 in
set_option maxRecDepth 100000 in
theorem len32_d (x:Int) (w:World) (h0:16777216 ≤ x) (h1:x ≤ 4294967295) :
  Calls Tryz.prog 153 #[.int .u32 x] w fun e w' => e = .returned (.int .i64 (Lib.bitLen x.toNat)) ∧ w' = w:=by
 have hs:=tab_size
 have ha:(65536:Int) ≤ x:=by omega
 have hb:(256:Int) ≤ x / 65536:=by omega
 go_enter Tryz.func153,Tryz.ntmps153
 go_wp2
 go_ret
 refine ⟨congrArg Ending.returned (congrArg (Value.int IntKind.i64) ?_),rfl⟩
 have e:(x / 65536 / 256).toNat = x.toNat / 16777216:=by omega
 have l:=bl8 (x.toNat / 16777216) (by omega)
 have s:=Lib.bitLen_shift24 x.toNat (by omega) (by omega)
 rw [tab_at,e]
 rw [wr_small ((Lib.bitLen (x.toNat / 16777216):Nat):Int) (by omega) (by omega)]
 rw [wr_small _ (by omega) (by omega)]
 omega

theorem len32_any (x:Nat) (w:World) (h1:x < 4294967296) :
  Calls Tryz.prog 153 #[.int .u32 (x:Nat)] w fun e w' => e = .returned (.int .i64 (Lib.bitLen x:Nat)) ∧ w' = w:=by
 by_cases ha:x < 256
 ·exact len32_a x w (by omega) (by omega)
 ·by_cases hb:x < 65536
  ·exact len32_b x w (by omega) (by omega)
  ·by_cases hc:x < 16777216
   ·exact len32_c x w (by omega) (by omega)
   ·exact len32_d x w (by omega) (by omega)
structure MulPre (w:World) (bz oz nz cz:Nat) (a1:Option Addr) (n1 c1:Nat) (xs:List Nat) (a2:Option Addr) (n2 c2:Nat) (ys:List Nat):Prop where
 h1:Sl w a1 n1 c1 xs
 h2:Sl w a2 n2 c2 ys
 s1:∀ x,a1 = some x → xs ≠ [] → x.block ≠ bz ∨ x.off + xs.length ≤ oz ∨ oz + nz ≤ x.off
 s2:∀ x,a2 = some x → ys ≠ [] → x.block ≠ bz ∨ x.off + ys.length ≤ oz ∨ oz + nz ≤ x.off
 ox:Ok xs
 oy:Ok ys
 hz:Fn w bz oz nz (fun _ => 0)
 hnz:n1 + n2 = nz
 hcz:nz ≤ cz
 hm:cz ≤ maxLen

theorem MulPre.swap {w:World} {bz oz nz cz:Nat} {a1:Option Addr} {n1 c1:Nat} {xs:List Nat} {a2:Option Addr} {n2 c2:Nat} {ys:List Nat} (h:MulPre w bz oz nz cz a1 n1 c1 xs a2 n2 c2 ys):MulPre w bz oz nz cz a2 n2 c2 ys a1 n1 c1 xs :=
 ⟨h.h2,h.h1,h.s2,h.s1,h.oy,h.ox,h.hz,by have:=h.hnz; omega,h.hcz,h.hm⟩

def MulPost (w:World) (bz oz nz:Nat) (v:Nat) (e:Ending) (w':World):Prop :=
 e = .returned (.tuple #[]) ∧ ∃ f',Fn w' bz oz nz f' ∧ (∀ i,i < nz → f' i < 4294967296) ∧ valF f' nz = v ∧ Upd bz oz (oz + nz) w w'

set_option maxHeartbeats 800000 in
theorem rows_nil (bz oz nz cz n1 c1 c2:Nat) (a1 a2:Option Addr) (w:World) :
  Calls Tryz.prog 204 #[.slice (some ⟨bz,oz,none⟩) nz cz,.slice a1 n1 c1,.slice a2 0 c2] w fun e w' => e = .returned (.tuple #[]) ∧ w' = w:=by
 go_enter Tryz.func204,Tryz.ntmps204
 go_wp2
 go_loop [13] (fun i => i = .int .i64 0) (fun i => (intOf i).toNat)
 case atStart => rfl
 case round =>
  subst hrel
  go_wp2
  go_end0
  exact ⟨rfl,rfl⟩

theorem rows_any {w:World} {bz oz nz cz:Nat} {a1:Option Addr} {n1 c1:Nat} {xs:List Nat} {a2:Option Addr} {n2 c2:Nat} {ys:List Nat} (h:MulPre w bz oz nz cz a1 n1 c1 xs a2 n2 c2 ys) (hle:n2 ≤ n1) :
  Calls Tryz.prog 204 #[.slice (some ⟨bz,oz,none⟩) nz cz,.slice a1 n1 c1,.slice a2 n2 c2] w fun e w' => MulPost w bz oz nz (val xs * val ys) e w':=by
 have l1:=h.h1.len
 have l2:=h.h2.len
 by_cases h0:ys = []
 ·have hh:=h.hz
  subst h0
  simp at l2
  subst l2
  refine (rows_nil bz oz nz cz n1 c1 c2 a1 a2 w).mono ?_
  rintro e w' ⟨rfl,rfl⟩
  exact ⟨rfl,_,hh,fun _ _ => by decide,by simp [val,valF_zero],Upd.refl _ _ _ _⟩
 ·have hx0:xs ≠ []:=by
   intro e
   subst e
   simp at l1
   have:ys = []:=List.eq_nil_of_length_eq_zero (by omega)
   exact h0 this
  rcases h.h1.cells with e | ⟨b1,o1,rfl,k1⟩
  ·exact absurd e hx0
  ·rcases h.h2.cells with e | ⟨b2,o2,rfl,k2⟩
   ·exact absurd e h0
   ·exact rows_some bz oz nz cz b1 o1 n1 c1 b2 o2 n2 c2 xs ys w (h.s1 _ rfl hx0) (h.s2 _ rfl h0) l1 l2 h.hnz h.hcz h.hm h.ox h.oy h.hz k1 k2

set_option maxHeartbeats 800000 in
theorem into_st {w:World} {bz oz nz cz:Nat} {a1:Option Addr} {n1 c1:Nat} {xs:List Nat} {a2:Option Addr} {n2 c2:Nat} {ys:List Nat} (h:MulPre w bz oz nz cz a1 n1 c1 xs a2 n2 c2 ys) (hge:n2 ≤ n1) (hs:n2 < 48) :
  Calls Tryz.prog 172 #[.slice (some ⟨bz,oz,none⟩) nz cz,.slice a1 n1 c1,.slice a2 n2 c2] w fun e w' => MulPost w bz oz nz (val xs * val ys) e w':=by
 have K:=Hj (rows_any h hge)
 have ht:¬ (n1:Int) < (n2:Int):=by omega
 have ht2:(n2:Int) < 48:=by omega
 skip
 clear h
 go_enter Tryz.func172,Tryz.ntmps172
 go_wp2_with fail
 refine (Uh K).mono ?_
 rintro e w' ⟨rfl,hp⟩
 have HP:=Hj hp
 clear hp K
 go_wp2
 go_end0
 exact ⟨rfl,Uh HP⟩

set_option maxHeartbeats 800000 in
theorem into_sw {w:World} {bz oz nz cz:Nat} {a1:Option Addr} {n1 c1:Nat} {xs:List Nat} {a2:Option Addr} {n2 c2:Nat} {ys:List Nat} (h:MulPre w bz oz nz cz a1 n1 c1 xs a2 n2 c2 ys) (hlt:n1 < n2) (hs:n1 < 48) :
  Calls Tryz.prog 172 #[.slice (some ⟨bz,oz,none⟩) nz cz,.slice a1 n1 c1,.slice a2 n2 c2] w fun e w' => MulPost w bz oz nz (val xs * val ys) e w':=by
 have K:=Hj (rows_any h.swap (by omega))
 have ht:(n1:Int) < (n2:Int):=by omega
 have ht2:(n1:Int) < 48:=by omega
 rw [Nat.mul_comm (val xs)]
 clear h
 go_enter Tryz.func172,Tryz.ntmps172
 go_wp2_with fail
 refine (Uh K).mono ?_
 rintro e w' ⟨rfl,hp⟩
 have HP:=Hj hp
 clear hp K
 go_wp2
 go_end0
 exact ⟨rfl,Uh HP⟩

theorem into_small {w:World} {bz oz nz cz:Nat} {a1:Option Addr} {n1 c1:Nat} {xs:List Nat} {a2:Option Addr} {n2 c2:Nat} {ys:List Nat} (h:MulPre w bz oz nz cz a1 n1 c1 xs a2 n2 c2 ys) (hs:n1 < 48 ∨ n2 < 48) :
  Calls Tryz.prog 172 #[.slice (some ⟨bz,oz,none⟩) nz cz,.slice a1 n1 c1,.slice a2 n2 c2] w fun e w' => MulPost w bz oz nz (val xs * val ys) e w':=by
 by_cases hlt:n1 < n2
 ·exact into_sw h hlt (by omega)
 ·exact into_st h (by omega) (by omega)

theorem make_sum (n1 n2:Nat) (hn:n1 + n2 ≤ 70368744177000) (w:World):(Instr.makeSlice 22 (.int .i64 ((n1:Int) + (n2:Int))) (.int .i64 ((n1:Int) + (n2:Int)))).run Tryz.prog w = .ok (.slice (some ⟨w.heap.size,0,none⟩) (n1 + n2) (n1 + n2)) (w.alloc (.cells (madeCells #[.int .u32 0] (n1 + n2)) 84)):=by
 have:=make_len (n1 + n2) (by omega) w
 rw [show ((n1 + n2:Nat):Int) = (n1:Int) + (n2:Int) from by omega] at this
 exact this

set_option maxHeartbeats 800000 in
theorem multiply_of (a1 a2:Option Addr) (n1 c1 n2 c2:Nat) (xs ys:List Nat) (w:World) (h1:Sl w a1 n1 c1 xs) (h2:Sl w a2 n2 c2 ys) (ox:Ok xs) (oy:Ok ys) (hb:n1 + n2 ≤ 70368744177000)
  (KI:∀ w bz oz nz cz,MulPre w bz oz nz cz a1 n1 c1 xs a2 n2 c2 ys → Calls Tryz.prog 172 #[.slice (some ⟨bz,oz,none⟩) nz cz,.slice a1 n1 c1,.slice a2 n2 c2] w fun e w' => MulPost w bz oz nz (val xs * val ys) e w') :
  Calls Tryz.prog 128 #[.slice a1 n1 c1,.slice a2 n2 c2] w fun e w' => NewRep w w' (val xs * val ys) e:=by
 have hmk:=make_sum n1 n2 hb
 have bel0:=(Below.refl w.heap.size w).alloc (Nat.le_refl _) (.cells (madeCells #[.int .u32 0] (n1 + n2)) 84)
 have KM:=Hj (KI _ w.heap.size 0 (n1 + n2) (n1 + n2) ⟨h1.below bel0,h2.below bel0,fun x hx hne => .inl (by have:=h1.block_lt hne x hx; omega),fun x hx hne => .inl (by have:=h2.block_lt hne x hx; omega),ox,oy,Fn.made w (n1 + n2) 84,rfl,Nat.le_refl _,by unfold maxLen; omega⟩)
 have HB0:=Hj bel0
 clear KI bel0 h1 h2 ox oy
 go_enter Tryz.func128,Tryz.ntmps128
 go_wp2_with fail
 refine (Uh KM).mono ?_
 rintro e w1 ⟨rfl,f',hF,hf,hv,hupd⟩
 have KT:=trim_any _ (n1 + n2) (n1 + n2) _ w1 (hF.sl (Nat.le_refl _) (by unfold maxLen; omega)) (lst_ok hf)
 rw [lst_val,hv] at KT
 have KT':=Hj KT
 have HB2:=Hj ((Uh HB0).trans (hupd.below (Nat.le_refl _) (Uh HB0).size))
 clear KT hF hf hv hupd KM
 go_wp2_with fail
 refine (Uh KT').mono ?_
 rintro e w2 ⟨a',m,zs,rfl,hs,hr,ha,rfl⟩
 go_wp2
 go_ret
 refine ⟨a',m,zs,rfl,hs,hr,?_,Uh HB2⟩
 intro x hx
 rcases ha with rfl | rfl
 ·cases hx; exact Nat.le_refl _
 ·cases hx

def bitsL (xs:List Nat):Nat:=(xs.length - 1) * 32 + Lib.bitLen (xs.getD (xs.length - 1) 0)

set_option maxHeartbeats 800000 in
theorem bitLen_some (b off n c:Nat) (x:Nat) (w:World) (h0:0 < n) (hn:n ≤ 1000000000000) (hx:x < 4294967296) (hc:w.cell? ⟨b,off + (n - 1),none⟩ = some (.int .u32 (x:Nat))) :
  Calls Tryz.prog 105 #[.slice (some ⟨b,off,none⟩) n c] w fun e w' => e = .returned (.int .i64 (((n - 1) * 32 + Lib.bitLen x:Nat):Int)) ∧ w' = w:=by
 have h1:((n:Int) == 0) = false:=by simp; omega
 have h2:((n:Int) - 1).toNat = n - 1:=by omega
 have K:=Hj (len32_any x w hx)
 have hl:Lib.bitLen x ≤ 64:=Lib.bitLen_le x 64 (by omega) (by omega)
 have HE:=Hj (show ((n:Int) - 1) * 32 + ((Lib.bitLen x:Nat):Int) = (((n - 1) * 32 + Lib.bitLen x:Nat):Int) from by omega)
 go_enter Tryz.func105,Tryz.ntmps105
 go_wp2_with fail
 refine (Uh K).mono ?_
 rintro e w' ⟨rfl,hw⟩
 obtain rfl:=hw.symm
 go_wp2
 go_ret
 refine ⟨?_,rfl⟩
 show Ending.returned (Value.int IntKind.i64 (((n:Int) - 1) * 32 + ((Lib.bitLen x:Nat):Int))) = _
 rw [Uh HE]

theorem bitLen_any (a:Option Addr) (n c:Nat) (xs:List Nat) (w:World) (h:Sl w a n c xs) (ok:Ok xs) (h0:xs ≠ []) (hn:n ≤ 1000000000000) :
  Calls Tryz.prog 105 #[.slice a n c] w fun e w' => e = .returned (.int .i64 (bitsL xs:Nat)) ∧ w' = w:=by
 have hl:=h.len
 have hp:0 < xs.length:=List.length_pos_iff.2 h0
 rcases h.cells with e | ⟨b,off,rfl,k⟩
 ·exact absurd e h0
 ·have:=bitLen_some b off n c (xs.getD (n - 1) 0) w (by omega) hn (ok.getD _) (k (n - 1) (by omega))
  unfold bitsL
  rw [hl]
  exact this
theorem bl_pos:∀ (x:Nat),x ≠ 0 → x < 18446744073709551616 → 1 ≤ Lib.bitLen x:=by
 intro x h0 hx
 rw [Lib.bitLen_half x h0 hx]
 omega

theorem bl_ge:∀ (n x:Nat),x ≤ n → x ≠ 0 → x < 18446744073709551616 → 2 ^ (Lib.bitLen x - 1) ≤ x
 | 0,x,h,h0,_ => by omega
 | n + 1,x,h,h0,hx => by
  by_cases h1:x / 2 = 0
  ·have e:x = 1:=by omega
   subst e
   decide +kernel
  ·have ih:=bl_ge n (x / 2) (by omega) h1 (by omega)
   have hp:=bl_pos (x / 2) h1 (by omega)
   rw [Lib.bitLen_half x h0 hx]
   have e:1 + Lib.bitLen (x / 2) - 1 = (Lib.bitLen (x / 2) - 1) + 1:=by omega
   rw [e,Nat.pow_succ]
   omega

theorem pow_limb (k:Nat):(4294967296:Nat) ^ k = 2 ^ (32 * k):=by
 rw [Nat.pow_mul]

theorem val_ge_bits {xs:List Nat} (ox:Ok xs) (nx:Norm xs) (h0:xs ≠ []):1 ≤ bitsL xs ∧ 2 ^ (bitsL xs - 1) ≤ val xs:=by
 have hp:0 < xs.length:=List.length_pos_iff.2 h0
 have ht:xs.getD (xs.length - 1) 0 ≠ 0:=nx.resolve_left h0
 have hb:=ox.getD (xs.length - 1)
 have h1:=bl_pos _ ht (by omega)
 have h2:=bl_ge _ _ (Nat.le_refl _) ht (by omega)
 refine ⟨by unfold bitsL; omega,?_⟩
 rw [val_split xs (xs.length - 1) (by omega),drop_cons (by omega)]
 simp only [val]
 unfold bitsL
 have e:(xs.length - 1) * 32 + Lib.bitLen (xs.getD (xs.length - 1) 0) - 1 = 32 * (xs.length - 1) + (Lib.bitLen (xs.getD (xs.length - 1) 0) - 1):=by omega
 rw [e,Nat.pow_add,← pow_limb]
 have:4294967296 ^ (xs.length - 1) * 2 ^ (Lib.bitLen (xs.getD (xs.length - 1) 0) - 1) ≤ 4294967296 ^ (xs.length - 1) * (xs.getD (xs.length - 1) 0 + 4294967296 * val (xs.drop (xs.length - 1 + 1))):=Nat.mul_le_mul_left _ (by omega)
 exact Nat.le_trans this (Nat.le_add_left _ _)

theorem big_of_bits {xs ys:List Nat} (ox:Ok xs) (oy:Ok ys) (nx:Norm xs) (ny:Norm ys) (h1:xs ≠ []) (h2:ys ≠ []) (hb:65536 < bitsL xs + bitsL ys - 1):2048 < (limbs (val xs * val ys)).length:=by
 obtain ⟨p1,g1⟩:=val_ge_bits ox nx h1
 obtain ⟨p2,g2⟩:=val_ge_bits oy ny h2
 rcases Nat.lt_or_ge 2048 (limbs (val xs * val ys)).length with h | h
 ·exact h
 ·exfalso
  have hr:=limbs_rep (val xs * val ys)
  have hlt:=val_lt hr.ok
  rw [hr.val,pow_limb] at hlt
  have h3:2 ^ (bitsL xs - 1) * 2 ^ (bitsL ys - 1) ≤ val xs * val ys:=Nat.mul_le_mul g1 g2
  rw [← Nat.pow_add] at h3
  have h4:2 ^ (32 * (limbs (val xs * val ys)).length) ≤ 2 ^ (bitsL xs - 1 + (bitsL ys - 1)):=Nat.pow_le_pow_right (by decide) (by omega)
  exact absurd (Nat.lt_of_lt_of_le hlt (Nat.le_trans h4 h3)) (Nat.lt_irrefl _)

theorem bitsL_le {xs:List Nat} (ox:Ok xs) (h:xs.length ≤ 2048):bitsL xs ≤ 100000:=by
 have hb:=ox.getD (xs.length - 1)
 have:Lib.bitLen (xs.getD (xs.length - 1) 0) ≤ 64:=Lib.bitLen_le _ 64 (by omega) (by omega)
 unfold bitsL
 omega

def mulL (xs ys:List Nat):List Nat × Int:=if MayL xs && MayL ys then fitL (val xs * val ys) else ([],20)

set_option maxHeartbeats 4000000 in
theorem nmul_of (a1 a2:Option Addr) (n1 c1 n2 c2:Nat) (xs ys:List Nat) (w:World) (h1:Sl w a1 n1 c1 xs) (h2:Sl w a2 n2 c2 ys) (ox:Ok xs) (oy:Ok ys)
  (KMul:MayL xs = true → MayL ys = true → Calls Tryz.prog 128 #[.slice a1 n1 c1,.slice a2 n2 c2] w fun e w' => NewRep w w' (val xs * val ys) e) :
  Calls Tryz.prog 77 #[.slice a1 n1 c1,.slice a2 n2 c2] w fun e w' => Res2 w w' (mulL xs ys) e:=by
 have K1:=may_any a1 n1 c1 xs w h1
 have K2:=may_any a2 n2 c2 ys w h2
 by_cases m1:MayL xs = true
 ·by_cases m2:MayL ys = true
  ·rw [m1] at K1; rw [m2] at K2
   have K1':=Hj K1
   have K2':=Hj K2
   have nx:=MayL.norm m1
   have ny:=MayL.norm m2
   have hl1:n1 ≤ 2048:=by have:=h1.len; have:=MayL.len m1; omega
   have hl2:n2 ≤ 2048:=by have:=h2.len; have:=MayL.len m2; omega
   have HC:=Hj (show mulL xs ys = fitL (val xs * val ys) from by simp [mulL,m1,m2])
   have KX:=Hj (KMul m1 m2)
   by_cases z1:n1 = 0
   ·have t1:¬ (0:Int) < (n1:Int):=by omega
    clear K1 K2 m1 m2 h1 h2 ox oy nx ny KMul z1
    go_enter Tryz.func77,Tryz.ntmps77
    go_wp2_with fail
    refine (Uh K1').mono ?_
    rintro e w' ⟨rfl,hw⟩
    obtain rfl:=hw.symm
    go_wp2_with fail
    refine (Uh K2').mono ?_
    rintro e w' ⟨rfl,hw⟩
    obtain rfl:=hw.symm
    go_wp2_with fail
    refine (Uh KX).mono ?_
    rintro e w1 ⟨a',m,zs,rfl,hs,hr,ha,hb⟩
    have K4:=Hj (fit_any a' m m _ zs w1 hs hr)
    have HA:=Hj ha
    have HB:=Hj hb
    clear hs hr ha hb KX
    go_wp2_with fail
    refine (Uh K4).mono ?_
    rintro e w2 ⟨a2',m2,c2',rfl,hs2,ha2,rfl⟩
    go_wp2
    go_ret2
    rw [Uh HC]
    refine ⟨a2',m2,c2',rfl,hs2,?_,Uh HB⟩
    rcases ha2 with rfl | rfl
    ·exact Uh HA
    ·exact newAt_nil _
   ·have t1:(0:Int) < (n1:Int):=by omega
    by_cases z2:n2 = 0
    ·have t2:¬ (0:Int) < (n2:Int):=by omega
     clear K1 K2 m1 m2 h1 h2 ox oy nx ny KMul z1 z2
     go_enter Tryz.func77,Tryz.ntmps77
     go_wp2_with fail
     refine (Uh K1').mono ?_
     rintro e w' ⟨rfl,hw⟩
     obtain rfl:=hw.symm
     go_wp2_with fail
     refine (Uh K2').mono ?_
     rintro e w' ⟨rfl,hw⟩
     obtain rfl:=hw.symm
     go_wp2_with fail
     refine (Uh KX).mono ?_
     rintro e w1 ⟨a',m,zs,rfl,hs,hr,ha,hb⟩
     have K4:=Hj (fit_any a' m m _ zs w1 hs hr)
     have HA:=Hj ha
     have HB:=Hj hb
     clear hs hr ha hb KX
     go_wp2_with fail
     refine (Uh K4).mono ?_
     rintro e w2 ⟨a2',m2,c2',rfl,hs2,ha2,rfl⟩
     go_wp2
     go_ret2
     rw [Uh HC]
     refine ⟨a2',m2,c2',rfl,hs2,?_,Uh HB⟩
     rcases ha2 with rfl | rfl
     ·exact Uh HA
     ·exact newAt_nil _
    ·have t2:(0:Int) < (n2:Int):=by omega
     have e1:xs ≠ []:=by intro e; have:=h1.len; rw [e] at this; simp at this; omega
     have e2:ys ≠ []:=by intro e; have:=h2.len; rw [e] at this; simp at this; omega
     have KB1:=Hj (bitLen_any a1 n1 c1 xs w h1 ox e1 (by omega))
     have KB2:=Hj (bitLen_any a2 n2 c2 ys w h2 oy e2 (by omega))
     have hg1:bitsL xs ≤ 100000:=bitsL_le ox (by rw [h1.len]; omega)
     have hg2:bitsL ys ≤ 100000:=bitsL_le oy (by rw [h2.len]; omega)
     by_cases big:65536 < bitsL xs + bitsL ys - 1
     ·have hbig:=fitL_big (big_of_bits ox oy nx ny e1 e2 big)
      rw [hbig] at HC
      have t3:(65536:Int) < ((bitsL xs:Nat):Int) + ((bitsL ys:Nat):Int) - 1:=by omega
      generalize bitsL xs = u1 at *
      generalize bitsL ys = u2 at *
      clear K1 K2 m1 m2 h1 h2 ox oy nx ny KMul z1 z2 e1 e2 hbig big
      go_enter Tryz.func77,Tryz.ntmps77
      go_wp2_with fail
      refine (Uh K1').mono ?_
      rintro e w' ⟨rfl,hw⟩
      obtain rfl:=hw.symm
      go_wp2_with fail
      refine (Uh K2').mono ?_
      rintro e w' ⟨rfl,hw⟩
      obtain rfl:=hw.symm
      go_wp2_with fail
      refine (Uh KB1).mono ?_
      rintro e w' ⟨rfl,hw⟩
      obtain rfl:=hw.symm
      go_wp2_with fail
      refine (Uh KB2).mono ?_
      rintro e w' ⟨rfl,hw⟩
      obtain rfl:=hw.symm
      go_wp2
      go_ret2
      rw [Uh HC]
      exact ⟨none,0,0,rfl,sl_nil _,newAt_nil _,Below.refl _ _⟩
     ·have t3:¬ (65536:Int) < ((bitsL xs:Nat):Int) + ((bitsL ys:Nat):Int) - 1:=by omega
      generalize bitsL xs = u1 at *
      generalize bitsL ys = u2 at *
      clear K1 K2 m1 m2 h1 h2 ox oy nx ny KMul z1 z2 e1 e2 big
      go_enter Tryz.func77,Tryz.ntmps77
      go_wp2_with fail
      refine (Uh K1').mono ?_
      rintro e w' ⟨rfl,hw⟩
      obtain rfl:=hw.symm
      go_wp2_with fail
      refine (Uh K2').mono ?_
      rintro e w' ⟨rfl,hw⟩
      obtain rfl:=hw.symm
      go_wp2_with fail
      refine (Uh KB1).mono ?_
      rintro e w' ⟨rfl,hw⟩
      obtain rfl:=hw.symm
      go_wp2_with fail
      refine (Uh KB2).mono ?_
      rintro e w' ⟨rfl,hw⟩
      obtain rfl:=hw.symm
      go_wp2_with fail
      refine (Uh KX).mono ?_
      rintro e w1 ⟨a',m,zs,rfl,hs,hr,ha,hb⟩
      have K4:=Hj (fit_any a' m m _ zs w1 hs hr)
      have HA:=Hj ha
      have HB:=Hj hb
      clear hs hr ha hb KX
      go_wp2_with fail
      refine (Uh K4).mono ?_
      rintro e w2 ⟨a2',m2,c2',rfl,hs2,ha2,rfl⟩
      go_wp2
      go_ret2
      rw [Uh HC]
      refine ⟨a2',m2,c2',rfl,hs2,?_,Uh HB⟩
      rcases ha2 with rfl | rfl
      ·exact Uh HA
      ·exact newAt_nil _
  ·have m2':MayL ys = false:=by simpa using m2
   rw [m1] at K1; rw [m2'] at K2
   have K1':=Hj K1
   have K2':=Hj K2
   have HC:=Hj (show mulL xs ys = ([],20) from by simp [mulL,m2'])
   clear K1 K2 m1 m2 m2' h1 h2 ox oy
   go_enter Tryz.func77,Tryz.ntmps77
   go_wp2_with fail
   refine (Uh K1').mono ?_
   rintro e w' ⟨rfl,hw⟩
   obtain rfl:=hw.symm
   go_wp2_with fail
   refine (Uh K2').mono ?_
   rintro e w' ⟨rfl,hw⟩
   obtain rfl:=hw.symm
   go_wp2
   go_ret2
   rw [Uh HC]
   exact ⟨none,0,0,rfl,sl_nil _,newAt_nil _,Below.refl _ _⟩
 ·have m1':MayL xs = false:=by simpa using m1
  rw [m1'] at K1
  have K1':=Hj K1
  have HC:=Hj (show mulL xs ys = ([],20) from by simp [mulL,m1'])
  clear K1 K2 m1 m1' h1 h2 ox oy
  go_enter Tryz.func77,Tryz.ntmps77
  go_wp2_with fail
  refine (Uh K1').mono ?_
  rintro e w' ⟨rfl,hw⟩
  obtain rfl:=hw.symm
  go_wp2
  go_ret2
  rw [Uh HC]
  exact ⟨none,0,0,rfl,sl_nil _,newAt_nil _,Below.refl _ _⟩
theorem bl_lt:∀ (n x:Nat),x ≤ n → x < 18446744073709551616 → x < 2 ^ Lib.bitLen x
 | 0,x,h,hx => by
  have e:x = 0:=by omega
  subst e
  decide +kernel
 | n + 1,x,h,hx => by
  by_cases h0:x = 0
  ·subst h0; decide +kernel
  ·have ih:=bl_lt n (x / 2) (by omega) (by omega)
   rw [Lib.bitLen_half x h0 hx,Nat.add_comm 1,Nat.pow_succ]
   omega

theorem take_lt_pow {xs:List Nat} (ox:Ok xs) (t:Nat) (h:t ≤ xs.length):val (xs.take t) < 4294967296 ^ t:=by
 have:=val_lt (ox.take t)
 rwa [List.length_take,Nat.min_eq_left h] at this

def bitsN (xs:List Nat):Nat:=if xs = [] then 0 else bitsL xs

theorem val_lt_bits {xs:List Nat} (ox:Ok xs):val xs < 2 ^ bitsN xs:=by
 unfold bitsN
 by_cases h0:xs = []
 ·subst h0; simp [val]
 ·rw [if_neg h0]
  have hp:0 < xs.length:=List.length_pos_iff.2 h0
  have hb:=ox.getD (xs.length - 1)
  have h2:=bl_lt _ _ (Nat.le_refl (xs.getD (xs.length - 1) 0)) (by omega)
  rw [val_split xs (xs.length - 1) (by omega),drop_cons (by omega)]
  have e:xs.drop (xs.length - 1 + 1) = []:=List.drop_eq_nil_of_le (by omega)
  rw [e]
  simp only [val]
  unfold bitsL
  rw [Nat.pow_add,Nat.mul_comm _ 32,← pow_limb,Nat.mul_zero,Nat.add_zero]
  have h1:=take_lt_pow ox (xs.length - 1) (by omega)
  have h3:4294967296 ^ (xs.length - 1) * (xs.getD (xs.length - 1) 0 + 1) ≤ 4294967296 ^ (xs.length - 1) * 2 ^ Lib.bitLen (xs.getD (xs.length - 1) 0):=Nat.mul_le_mul_left _ h2
  rw [Nat.mul_add,Nat.mul_one] at h3
  omega

theorem bitsN_le {xs:List Nat} (ox:Ok xs) (h:xs.length ≤ 2048):bitsN xs ≤ 100000:=by
 unfold bitsN
 split
 ·omega
 ·exact bitsL_le ox h

theorem bitsN_mono {xs ys:List Nat} (ox:Ok xs) (oy:Ok ys) (nx:Norm xs) (h:val xs ≤ val ys):bitsN xs ≤ bitsN ys:=by
 have h2:=val_lt_bits oy
 by_cases h0:xs = []
 ·simp [bitsN,h0]
 ·have h1:=val_ge_bits ox nx h0
  have h3:2 ^ (bitsL xs - 1) < 2 ^ bitsN ys:=by omega
  have h4:bitsL xs - 1 < bitsN ys:=(Nat.pow_lt_pow_iff_right (by decide)).1 h3
  have e:bitsN xs = bitsL xs:=by simp [bitsN,h0]
  omega

set_option maxHeartbeats 800000 in
theorem bitLen_nil (a:Option Addr) (c:Nat) (w:World) :
  Calls Tryz.prog 105 #[.slice a 0 c] w fun e w' => e = .returned (.int .i64 0) ∧ w' = w:=by
 go_enter Tryz.func105,Tryz.ntmps105
 go_wp2
 go_ret
 exact ⟨rfl,rfl⟩

theorem bitLen_all (a:Option Addr) (n c:Nat) (xs:List Nat) (w:World) (h:Sl w a n c xs) (ok:Ok xs) (hn:n ≤ 1000000000000) :
  Calls Tryz.prog 105 #[.slice a n c] w fun e w' => e = .returned (.int .i64 (bitsN xs:Nat)) ∧ w' = w:=by
 by_cases h0:xs = []
 ·have hl:=h.len
  subst h0
  simp at hl
  subst hl
  have:(bitsN []:Nat) = 0:=by simp [bitsN]
  rw [this]
  exact bitLen_nil a c w
 ·have e:bitsN xs = bitsL xs:=by simp [bitsN,h0]
  rw [e]
  exact bitLen_any a n c xs w h ok h0 hn

set_option maxHeartbeats 800000 in
theorem nbits_any (a:Option Addr) (n c:Nat) (xs:List Nat) (w:World) (h:Sl w a n c xs) (ok:Ok xs) (m:MayL xs = true) :
  Calls Tryz.prog 94 #[.slice a n c] w fun e w' => e = .returned (.int .i64 (bitsN xs:Nat)) ∧ w' = w:=by
 have K1:=may_any a n c xs w h
 rw [m] at K1
 have K1':=Hj K1
 have K2:=Hj (bitLen_all a n c xs w h ok (by have:=MayL.len m; have:=h.len; omega))
 generalize bitsN xs = u at *
 clear K1 h ok m
 go_enter Tryz.func94,Tryz.ntmps94
 go_wp2_with fail
 refine (Uh K1').mono ?_
 rintro e w' ⟨rfl,hw⟩
 obtain rfl:=hw.symm
 go_wp2_with fail
 refine (Uh K2).mono ?_
 rintro e w' ⟨rfl,hw⟩
 obtain rfl:=hw.symm
 go_wp2
 go_ret
 exact ⟨rfl,rfl⟩
def sv (x s:Nat):Nat:=x * 2 ^ s
def slo (x s:Nat):Nat:=x * 2 ^ s % 4294967296
def shi (x s:Nat):Nat:=x * 2 ^ s / 4294967296

theorem pow_s {s:Nat} (h:s < 32):1 ≤ 2 ^ s ∧ 2 ^ s ≤ 2147483648:=by
 refine ⟨Nat.pow_pos (by decide),?_⟩
 have:2 ^ s ≤ 2 ^ 31:=Nat.pow_le_pow_right (by decide) (by omega)
 simpa using this

theorem pow_split {s:Nat} (h:s < 32):2 ^ s * 2 ^ (32 - s) = 4294967296:=by
 rw [← Nat.pow_add,show s + (32 - s) = 32 from by omega]

theorem sv_lt {x s:Nat} (hx:x < 4294967296) (h:s < 32):sv x s < 9223372036854775808:=by
 obtain ⟨h1,h2⟩:=pow_s h
 have:x * 2 ^ s ≤ 4294967295 * 2147483648:=Nat.mul_le_mul (by omega) h2
 unfold sv
 omega

theorem sv_int {x s:Nat} (hx:x < 4294967296) (h:s < 32):IntKind.u64.wrap ((x:Int) * 2 ^ s) = ((sv x s:Nat):Int):=by
 have hb:=sv_lt hx h
 have e:(x:Int) * 2 ^ s = ((sv x s:Nat):Int):=by unfold sv; rw [Int.natCast_mul,Int.natCast_pow]; rfl
 rw [e,IntKind.wrap_u64]
 omega

theorem slo_int (x s:Nat):((sv x s:Nat):Int) % 4294967296 = ((slo x s:Nat):Int):=by unfold slo sv; omega
theorem shi_int (x s:Nat):((sv x s:Nat):Int) / 4294967296 = ((shi x s:Nat):Int):=by unfold shi sv; omega
theorem sh_eq (x s:Nat):slo x s + 4294967296 * shi x s = x * 2 ^ s:=by unfold slo shi; exact Nat.mod_add_div _ _
theorem slo_lt (x s:Nat):slo x s < 4294967296:=by unfold slo; exact Nat.mod_lt _ (by decide)
theorem shi_lt {x s:Nat} (hx:x < 4294967296) (h:s < 32):shi x s < 2 ^ s:=by
 unfold shi
 obtain ⟨h1,h2⟩:=pow_s h
 rw [Nat.div_lt_iff_lt_mul (by decide),Nat.mul_comm]
 exact Nat.mul_lt_mul_of_pos_left hx (by omega)

theorem slo_mul {x s:Nat} (h:s < 32):slo x s = 2 ^ s * (x % 2 ^ (32 - s)):=by
 unfold slo
 rw [← pow_split h,Nat.mul_comm x,Nat.mul_mod_mul_left]

theorem or_slo {o x s:Nat} (h:s < 32) (ho:o < 2 ^ s):o ||| slo x s = o + slo x s:=by
 rw [slo_mul h]
 have:=Nat.shiftLeft_add_eq_or_of_lt (i:=s) (b:=o) ho (x % 2 ^ (32 - s))
 rw [Nat.shiftLeft_eq,Nat.mul_comm] at this
 rw [Nat.or_comm,← this,Nat.add_comm]

theorem or_slo_lt {o x s:Nat} (h:s < 32) (ho:o < 2 ^ s):o + slo x s < 4294967296:=by
 rw [← or_slo h ho]
 have:(o ||| slo x s) < 2 ^ 32:=Nat.or_lt_two_pow (by have:=(pow_s h).2; omega) (slo_lt x s)
 exact this

def orv (o x s:Nat):Nat:=o + slo x s
theorem or_int {o x s:Nat} (h:s < 32) (ho:o < 2 ^ s):bits .or .u32 (o:Int) ((slo x s:Nat):Int) = ((orv o x s:Nat):Int):=by
 rw [u32_or_nat _ _ (by have:=(pow_s h).2; omega) (slo_lt x s),or_slo h ho]
 rfl

structure ShR (wr w:World) (m l s:Nat) (xs:List Nat) (i:Nat) (g:Nat → Nat):Prop where
 fn:Fn wr w.heap.size 0 m g
 ok:∀ k,k < m → g k < 4294967296
 top:g (l + i) < 2 ^ s
 zero:∀ k,l + i < k → g k = 0
 val:valF g (l + i + 1) = valF (fun k => xs.getD k 0) i * 2 ^ s * 4294967296 ^ l
 bel:Below w.heap.size w wr

theorem ShR.step {wr w:World} {m l s:Nat} {xs:List Nat} {i:Nat} {g:Nat → Nat} (h:ShR wr w m l s xs i g) (hs:s < 32) (hm:l + i + 1 < m) (ox:Ok xs) :
  ShR ((wr.setCell ⟨w.heap.size,l + i,none⟩ (.int .u32 (orv (g (l + i)) (xs.getD i 0) s:Nat))).setCell ⟨w.heap.size,l + i + 1,none⟩ (.int .u32 (shi (xs.getD i 0) s:Nat))) w m l s xs (i + 1)
   (fun k => if k = l + i + 1 then shi (xs.getD i 0) s else if k = l + i then orv (g (l + i)) (xs.getD i 0) s else g k):=by
 have f1:=h.fn.set (l + i) (orv (g (l + i)) (xs.getD i 0) s) (by omega)
 have f2:=f1.set (l + i + 1) (shi (xs.getD i 0) s) hm
 simp only [Nat.zero_add] at f2
 have hh:=shi_lt (ox.getD i) hs
 have hp:=pow_s hs
 refine ⟨f2,?_,?_,?_,?_,(h.bel.setCell (Nat.le_refl _) _).setCell (Nat.le_refl _) _⟩
 ·intro k hk
  by_cases e:k = l + i + 1
  ·simp only [e,if_true]; omega
  ·by_cases e2:k = l + i
   ·simp only [e2,show ¬ l + i = l + i + 1 from by omega,if_true,if_false]; exact or_slo_lt hs h.top
   ·simp only [e,e2,if_false]; exact h.ok k hk
 ·simp only [show l + (i + 1) = l + i + 1 from by omega,if_true]; exact hh
 ·intro k hk
  simp only [show ¬ k = l + i + 1 from by omega,show ¬ k = l + i from by omega,if_false]
  exact h.zero k (by omega)
 ·have e1:l + (i + 1) + 1 = l + i + 1 + 1:=by omega
  rw [e1]
  simp only [valF]
  simp only [if_true,show ¬ l + i = l + i + 1 from by omega,if_false]
  rw [valF_congr (g:=g) (fun k hk => by rw [if_neg (by omega),if_neg (by omega)])]
  have hv:=h.val
  simp only [valF] at hv
  have e:=sh_eq (xs.getD i 0) s
  have e2:orv (g (l + i)) (xs.getD i 0) s = g (l + i) + slo (xs.getD i 0) s:=rfl
  rw [e2,Nat.mul_add,Nat.pow_succ,Nat.add_mul,Nat.add_mul,← hv]
  have e3:4294967296 ^ (l + i) * slo (xs.getD i 0) s + 4294967296 ^ (l + i) * 4294967296 * shi (xs.getD i 0) s = 4294967296 ^ i * xs.getD i 0 * 2 ^ s * 4294967296 ^ l:=by
   rw [Nat.mul_assoc,← Nat.mul_add,e,Nat.pow_add]
   rw [Nat.mul_comm (4294967296 ^ l),Nat.mul_assoc,Nat.mul_comm (4294967296 ^ l),← Nat.mul_assoc,← Nat.mul_assoc]
  generalize 4294967296 ^ (l + i) * slo (xs.getD i 0) s = t1 at *
  generalize 4294967296 ^ (l + i) * 4294967296 * shi (xs.getD i 0) s = t2 at *
  generalize 4294967296 ^ i * xs.getD i 0 * 2 ^ s * 4294967296 ^ l = t3 at *
  generalize 4294967296 ^ (l + i) * g (l + i) = t4 at *
  omega

theorem ShR.begin (w:World) (m l s:Nat) (xs:List Nat) (hs:s < 32):ShR (w.alloc (.cells (madeCells #[.int .u32 0] m) 84)) w m l s xs 0 (fun _ => 0) :=
 ⟨Fn.made w m _,fun _ _ => by decide,(pow_s hs).1,fun _ _ => rfl,by rw [valF_zero]; simp [valF],bAl⟩

theorem sh_total {v k l s:Nat} (hl:k / 32 = l) (hs:k % 32 = s):v * 2 ^ s * 4294967296 ^ l = v * 2 ^ k:=by
 have e:k = s + 32 * l:=by omega
 have p:(4294967296:Nat) ^ l = 2 ^ (32 * l):=by rw [Nat.pow_mul]
 rw [e,Nat.pow_add,p,Nat.mul_assoc]
theorem valF_ge (xs:List Nat) (n:Nat) (h:xs.length ≤ n):valF (fun i => xs.getD i 0) n = val xs:=by
 rw [← valF_pad xs n h]
 apply valF_congr
 intro i hi
 by_cases e:i < xs.length
 ·simp [e]
 ·rw [if_neg e]; exact getD_ge (by omega)

theorem one_int {k:IntKind} {x:Int}:∀ u ∈ [Value.int k x],u.oneCell' = true:=by
 intro u hu; simp at hu; subst hu; rfl

structure PlusR (wr w:World) (s t:Nat) (v:Value) (k c:Nat) (zs:List Nat):Prop where
 len:zs.length = k
 ok:Ok zs
 cle:c ≤ 1
 own:wr.ownsRow w.heap.size 84 1 v k (vals zs)
 val:val zs + 4294967296 ^ k * c = s + t
 bel:Below w.heap.size w wr

theorem PlusR.step {wr w w1:World} {s t:Nat} {v v':Value} {k c:Nat} {zs:List Nat} {o:Obj} (h:PlusR wr w s t v k c zs) (x y:Nat) (hx:x < 4294967296) (hy:y < 4294967296)
  (hown:w1.ownsRow w.heap.size 84 1 v' (k + 1) (vals zs ++ [.int .u32 (adl x y c:Nat)])) (hg:(wr.alloc o).grownBy w1 v.ownBlock) :
  PlusR w1 w (s + 4294967296 ^ k * x) (t + 4294967296 ^ k * y) v' (k + 1) (adc x y c) (zs ++ [adl x y c]):=by
 have hs:=h.bel.size
 refine ⟨by simp [h.len],?_,adc_le x y c hx hy h.cle,by simpa [vals] using hown,?_,?_⟩
 ·intro z hz
  rcases List.mem_append.1 hz with hz | hz
  ·exact h.ok z hz
  ·simp at hz; subst hz; exact adl_lt _ _ _
 ·rw [val_append,h.len]
  simp only [Go.Proofs.YtmnlhnmlgncedaaGreatDoor.val,Nat.mul_zero,Nat.add_zero]
  have e:=ad_eq x y c
  rw [Nat.pow_succ]
  have:4294967296 ^ k * adl x y c + 4294967296 ^ k * 4294967296 * adc x y c = 4294967296 ^ k * x + 4294967296 ^ k * y + 4294967296 ^ k * c:=by
   rw [Nat.mul_assoc,← Nat.mul_add,e,Nat.mul_add,Nat.mul_add]
  have:=h.val
  omega
 ·exact Below.grown (h.bel.alloc (by omega) o) hg (by simp; omega) (fun k hk => (own_ge h.own k hk).1)

theorem own_sl {w:World} {base k:Nat} {v:Value} {zs:List Nat} (h:w.ownsRow base 84 1 v k (vals zs)):∃ a c,v = .slice a k c ∧ Sl w a k c zs ∧ NewAt base a:=by
 have hl:zs.length = k:=by simpa [vals] using h.1
 rcases h.2 with ⟨e,h0⟩ | ⟨g,cap,cur,e,hb,h5,h6,h7,h8,h9⟩
 ·subst e h0
  have:zs = []:=List.eq_nil_of_length_eq_zero hl
  subst this
  exact ⟨none,0,rfl,⟨rfl,Nat.le_refl _,Nat.zero_le _,.inl rfl⟩,fun x hx => by cases hx⟩
 ·subst e
  exact ⟨_,_,rfl,sl_of_own h,fun x hx => by cases hx; exact hb⟩

theorem minus_arith {P A t s c l y x b:Nat} (h1:A + t = s + P * c) (e:l + y + c = x + 4294967296 * b):A + P * l + (t + P * y) = s + P * x + P * 4294967296 * b:=by
 have h2:P * l + P * y + P * c = P * x + P * 4294967296 * b:=by
  rw [← Nat.mul_add,← Nat.mul_add,e,Nat.mul_add,Nat.mul_assoc]
 generalize P * l = a1 at *
 generalize P * y = a2 at *
 generalize P * c = a3 at *
 generalize P * x = a4 at *
 generalize P * 4294967296 * b = a5 at *
 omega
theorem make_nl (n l:Nat) (h:n + l + 1 ≤ 70368744177600) (w:World):(Instr.makeSlice 22 (.int .i64 ((n:Int) + (l:Int) + 1)) (.int .i64 ((n:Int) + (l:Int) + 1))).run Tryz.prog w = .ok (.slice (some ⟨w.heap.size,0,none⟩) (n + l + 1) (n + l + 1)) (w.alloc (.cells (madeCells #[.int .u32 0] (n + l + 1)) 84)):=by
 have:=make_len (n + l + 1) h w
 rw [show ((n + l + 1:Nat):Int) = (n:Int) + (l:Int) + 1 from by omega] at this
 exact this

set_option maxHeartbeats 2000000 in
theorem shl_some (b off n c:Nat) (xs:List Nat) (w:World) (k l s:Nat) (hl:xs.length = n) (hc:Cells w b off xs) (ox:Ok xs) (hkl:(k:Int) / 32 = (l:Int)) (hks:(k:Int) % 32 = (s:Int)) (hs32:s < 32) (hk0:k ≤ 65536) (hl0:l ≤ 2048) (hn:0 < n) (hn2:n ≤ 2048) :
  Calls Tryz.prog 93 #[.slice (some ⟨b,off,none⟩) n c,.int .i64 (k:Nat)] w fun e w' => NewRep w w' (val xs * 2 ^ k) e:=by
 have hmk:=fun w => make_nl n l (by omega) w
 have hne:((n:Int) == 0) = false:=by simp; omega
 have HL:=Hj hl
 have HT:=Hj (sh_total (v:=val xs) (k:=k) (l:=l) (s:=s) (by omega) (by omega))
 clear hl
 go_enter Tryz.func93,Tryz.ntmps93
 go_wp2_with fail
 rw [hks]
 clear hkl hks hk0
 go_loopw [25] (fun i wr => ∃ j:Nat,∃ g:Nat → Nat,j ≤ n ∧ i = .int .i64 j ∧ ShR wr w (n + l + 1) l s xs j g) (fun i _ => n - (intOf i).toNat)
 case atStart => exact ⟨0,_,Nat.zero_le _,rfl,ShR.begin w (n + l + 1) l s xs hs32⟩
 case round =>
  obtain ⟨j,g,hj,rfl,hR⟩:=hrel
  by_cases hlt:j < n
  ·have hlt':(j:Int) < (n:Int):=by omega
   have hb1:(l:Int) + (j:Int) < (n:Int) + (l:Int) + 1:=by omega
   have hb2:(l:Int) + (j:Int) + 1 < (n:Int) + (l:Int) + 1:=by omega
   have g0:=hc j (by rw [Uh HL]; exact hlt)
   have g1:wr.cell? ⟨b,off + j,none⟩ = _:=(ck hR.bel g0)
   have g2:=hR.fn (l + j) (by omega)
   have g3:=hR.fn (l + j + 1) (by omega)
   simp only [Nat.zero_add] at g2 g3
   have c1:=g2.1
   have c2:=g2.2
   have c3:=g3.1
   have c4:=g3.2
   have bx:=ox.getD j
   have e0:=sv_int (x:=xs.getD j 0) (s:=s) bx hs32
   have e1:=slo_int (xs.getD j 0) s
   have e2:=shi_int (xs.getD j 0) s
   have e3:=or_int (x:=xs.getD j 0) hs32 hR.top
   have b1:=sv_lt (x:=xs.getD j 0) bx hs32
   have b2:shi (xs.getD j 0) s < 4294967296:=by have:=shi_lt (x:=xs.getD j 0) bx hs32; have:=(pow_s hs32).2; omega
   have HS:=Hj (hR.step hs32 (by omega) ox)
   generalize xs.getD j 0 = x at *
   generalize g (l + j) = o at *
   generalize g (l + j + 1) = o2 at *
   clear hR g0 g2 g3
   go_wp2
   exact ⟨⟨j + 1,_,by omega,by go_num,Uh HS⟩,by simp [intOf]; omega⟩
  ·have hjn:j = n:=by omega
   subst hjn
   have hv:valF g (j + l + 1) = val xs * 2 ^ k:=by
    have:=hR.val
    rw [← Uh HL,valF_list,Uh HT,Uh HL,Nat.add_comm l j] at this
    exact this
   have KT:=trim_any _ (j + l + 1) (j + l + 1) _ wr (hR.fn.sl (Nat.le_refl _) (by unfold maxLen; omega)) (lst_ok hR.ok)
   rw [lst_val,hv] at KT
   have KT':=Hj KT
   have HB:=Hj hR.bel
   clear hR KT hv
   go_wp2_with fail
   refine (Uh KT').mono ?_
   rintro e w3 ⟨a',m,zs,rfl,hs,hr,ha,rfl⟩
   go_wp2
   go_ret
   refine ⟨a',m,zs,rfl,hs,hr,?_,Uh HB⟩
   intro x hx
   rcases ha with rfl | rfl
   ·cases hx; exact Nat.le_refl _
   ·cases hx

set_option maxHeartbeats 400000 in
theorem shl_nil (a:Option Addr) (c:Nat) (k:Int) (w:World) :
  Calls Tryz.prog 93 #[.slice a 0 c,.int .i64 k] w fun e w' => e = .returned (.slice none 0 0) ∧ w' = w:=by
 go_enter Tryz.func93,Tryz.ntmps93
 go_wp2
 go_ret
 exact ⟨rfl,rfl⟩

theorem shl_any (a:Option Addr) (n c:Nat) (xs:List Nat) (w:World) (k:Nat) (h:Sl w a n c xs) (ox:Ok xs) (hn:n ≤ 2048) (hk:k ≤ 65536) :
  Calls Tryz.prog 93 #[.slice a n c,.int .i64 (k:Nat)] w fun e w' => NewRep w w' (val xs * 2 ^ k) e:=by
 by_cases h0:xs = []
 ·have hl:=h.len
  subst h0
  simp at hl
  subst hl
  refine (shl_nil a c k w).mono ?_
  rintro e w' ⟨rfl,rfl⟩
  exact ⟨none,0,[],rfl,sl_nil _,⟨Ok.nil,.inl rfl,by simp [val]⟩,newAt_nil _,Below.refl _ _⟩
 ·have hp:0 < xs.length:=List.length_pos_iff.2 h0
  rcases h.cells with e | ⟨b,off,rfl,hc⟩
  ·exact absurd e h0
  ·exact shl_some b off n c xs w k (k / 32) (k % 32) h.len hc ox (by omega) (by omega) (by omega) hk (by omega) (by have:=h.len; omega) hn

def chk (xs:List Nat) (k:Int):Int:=if MayL xs then (if 0 ≤ k ∧ k ≤ 65536 then 0 else 1) else 20

set_option maxHeartbeats 800000 in
theorem check_any (a:Option Addr) (n c:Nat) (xs:List Nat) (w:World) (k:Int) (h:Sl w a n c xs) :
  Calls Tryz.prog 91 #[.slice a n c,.int .i64 k] w fun e w' => e = .returned (.int .i64 (chk xs k)) ∧ w' = w:=by
 have K1:=may_any a n c xs w h
 by_cases m1:MayL xs = true
 ·rw [m1] at K1
  have K1':=Hj K1
  by_cases hlo:k < 0
  ·have HC:=Hj (show chk xs k = 1 from by unfold chk; rw [m1]; simp; omega)
   clear K1 m1 h
   go_enter Tryz.func91,Tryz.ntmps91
   go_wp2_with fail
   refine (Uh K1').mono ?_
   rintro e w' ⟨rfl,hw⟩
   obtain rfl:=hw.symm
   go_wp2
   go_ret
   exact ⟨by rw [Uh HC]; rfl,rfl⟩
  ·by_cases hhi:65536 < k
   ·have HC:=Hj (show chk xs k = 1 from by unfold chk; rw [m1]; simp; omega)
    clear K1 m1 h
    go_enter Tryz.func91,Tryz.ntmps91
    go_wp2_with fail
    refine (Uh K1').mono ?_
    rintro e w' ⟨rfl,hw⟩
    obtain rfl:=hw.symm
    go_wp2
    go_ret
    exact ⟨by rw [Uh HC]; rfl,rfl⟩
   ·have HC:=Hj (show chk xs k = 0 from by unfold chk; rw [m1]; simp; omega)
    clear K1 m1 h
    go_enter Tryz.func91,Tryz.ntmps91
    go_wp2_with fail
    refine (Uh K1').mono ?_
    rintro e w' ⟨rfl,hw⟩
    obtain rfl:=hw.symm
    go_wp2
    go_ret
    exact ⟨by rw [Uh HC]; rfl,rfl⟩
 ·have m1':MayL xs = false:=by simpa using m1
  rw [m1'] at K1
  have K1':=Hj K1
  have HC:=Hj (show chk xs k = 20 from by unfold chk; rw [m1']; simp)
  clear K1 m1 m1' h
  go_enter Tryz.func91,Tryz.ntmps91
  go_wp2_with fail
  refine (Uh K1').mono ?_
  rintro e w' ⟨rfl,hw⟩
  obtain rfl:=hw.symm
  go_wp2
  go_ret
  exact ⟨by rw [Uh HC]; rfl,rfl⟩

def shlL (xs:List Nat) (k:Int):List Nat × Int:=if MayL xs then (if 0 ≤ k ∧ k ≤ 65536 then fitL (val xs * 2 ^ k.toNat) else ([],1)) else ([],20)
def shrL (xs:List Nat) (k:Int):List Nat × Int:=if MayL xs then (if 0 ≤ k ∧ k ≤ 65536 then (limbs (val xs / 2 ^ k.toNat),0) else ([],1)) else ([],20)

theorem shlL_bad {xs:List Nat} {k:Int} (h:chk xs k ≠ 0):shlL xs k = ([],chk xs k):=by
 unfold shlL chk at *
 cases hm:MayL xs <;> simp [hm] at h ⊢
 by_cases hk:0 ≤ k ∧ k ≤ 65536
 ·have:=h hk.1
  omega
 ·simp [hk]
theorem shrL_bad {xs:List Nat} {k:Int} (h:chk xs k ≠ 0):shrL xs k = ([],chk xs k):=by
 unfold shrL chk at *
 cases hm:MayL xs <;> simp [hm] at h ⊢
 by_cases hk:0 ≤ k ∧ k ≤ 65536
 ·have:=h hk.1
  omega
 ·simp [hk]
theorem chk_ok {xs:List Nat} {k:Int} (h:chk xs k = 0):MayL xs = true ∧ 0 ≤ k ∧ k ≤ 65536:=by
 unfold chk at h
 cases hm:MayL xs
 ·simp [hm] at h
 ·by_cases hk:0 ≤ k ∧ k ≤ 65536
  ·exact ⟨rfl,hk⟩
  ·simp [hm,hk] at h

set_option maxHeartbeats 800000 in
theorem nshl_any (a:Option Addr) (n c:Nat) (xs:List Nat) (w:World) (k:Int) (h:Sl w a n c xs) (ox:Ok xs) :
  Calls Tryz.prog 46 #[.slice a n c,.int .i64 k] w fun e w' => Res2 w w' (shlL xs k) e:=by
 have KC:=check_any a n c xs w k h
 by_cases hc:chk xs k = 0
 ·obtain ⟨m1,k0,k1⟩:=chk_ok hc
  rw [hc] at KC
  have KC':=Hj KC
  obtain ⟨k,rfl⟩:=Int.eq_ofNat_of_zero_le k0
  have HC:=Hj (show shlL xs k = fitL (val xs * 2 ^ k) from by unfold shlL; rw [m1]; simp; omega)
  have KS:=Hj (shl_any a n c xs w k h ox (by have:=h.len; have:=MayL.len m1; omega) (by omega))
  clear KC hc m1 h ox
  go_enter Tryz.func46,Tryz.ntmps46
  go_wp2_with fail
  refine (Uh KC').mono ?_
  rintro e w' ⟨rfl,hw⟩
  obtain rfl:=hw.symm
  go_wp2_with fail
  refine (Uh KS).mono ?_
  rintro e w1 ⟨a',m,zs,rfl,hs,hr,ha,hb⟩
  have K4:=Hj (fit_any a' m m _ zs w1 hs hr)
  have HA:=Hj ha
  have HB:=Hj hb
  clear hs hr ha hb KS
  go_wp2_with fail
  refine (Uh K4).mono ?_
  rintro e w2 ⟨a2',m2,c2',rfl,hs2,ha2,rfl⟩
  go_wp2
  go_ret2
  rw [Uh HC]
  refine ⟨a2',m2,c2',rfl,hs2,?_,Uh HB⟩
  rcases ha2 with rfl | rfl
  ·exact Uh HA
  ·exact newAt_nil _
 ·have hb:(chk xs k != 0) = true:=by rw [bne_iff_ne]; exact hc
  have HC:=Hj (shlL_bad hc)
  have KC':=Hj KC
  generalize chk xs k = cc at *
  clear KC hc h ox
  go_enter Tryz.func46,Tryz.ntmps46
  go_wp2_with fail
  refine (Uh KC').mono ?_
  rintro e w' ⟨rfl,hw⟩
  obtain rfl:=hw.symm
  go_wp2
  go_ret2
  rw [Uh HC]
  exact ⟨none,0,0,rfl,sl_nil _,newAt_nil _,Below.refl _ _⟩
end Go.Proofs.YtmnlhnmlgncedaaGreatDoor
