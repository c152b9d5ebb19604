/- Wr5 -/
import Derived.Test.YtjoaijbhpgekoaaGreatDoorWrb
import Derived.Test.YtjoaijbhpgekoaaGreatDoorPa2
import Derived.Test.YtjoaijbhpgekoaaGreatDoorRd1
import Derived.Test.YtjoaijbhpgekoaaGreatDoorShl
import Derived.Test.YtjoaijbhpgekoaaGreatDoorFtm
import Derived.Test.YtjoaijbhpgekoaaGreatDoorRp4
import Derived.Test.YtjoaijbhpgekoaaGreatDoorRp3
import Derived.Test.YtjoaijbhpgekoaaGreatDoorPa6
import Derived.Laws.IdiomStrings
namespace Go.Proofs.YtjoaijbhpgekoaaGreatDoor
open Go.RowKit Go.Deep
set_option linter.unusedVariables false

theorem ten_lt {v n:Nat} (h:v ≤ 10 ^ n):v < 4294967296 ^ (n + 1):=by
 have h1:10 ^ n ≤ 4294967296 ^ n:=Nat.pow_le_pow_left (by decide) n
 have h2:4294967296 ^ n < 4294967296 ^ (n + 1):=Nat.pow_lt_pow_right (by decide) (Nat.lt_succ_self n)
 omega
theorem ten_len {v n:Nat} (h:v ≤ 10 ^ n):(limbs v).length ≤ n + 1:=limbs_len (ten_lt h)

structure TnR (wr w:World) (n j X Y:Nat) (ax:Option Addr) (mx cx:Nat) (ab:Option Addr) (mb cb:Nat):Prop where
 sx:Sl wr ax mx cx (limbs X)
 sb:Sl wr ab mb cb (limbs Y)
 nx:NewAt w.heap.size ax
 zx:ax = none → cx = 0
 eq:X * Y ^ j = 10 ^ n
 bel:Below w.heap.size w wr
theorem TnR.bx {wr w:World} {n j X Y:Nat} {ax:Option Addr} {mx cx:Nat} {ab:Option Addr} {mb cb:Nat} (h:TnR wr w n j X Y ax mx cx ab mb cb):X ≤ 10 ^ n ∧ (0 < j → X * Y ≤ 10 ^ n ∧ Y ≤ 10 ^ n):=by
 have hp:0 < 10 ^ n:=Nat.pow_pos (by decide)
 have he:=h.eq
 have hX:0 < X:=by
  rcases Nat.eq_zero_or_pos X with e | e
  ·rw [e,Nat.zero_mul] at he; omega
  ·exact e
 have hY:0 < Y ^ j:=by
  rcases Nat.eq_zero_or_pos (Y ^ j) with e | e
  ·rw [e,Nat.mul_zero] at he; omega
  ·exact e
 refine ⟨by rw [← he]; exact Nat.le_mul_of_pos_right _ hY,fun hj => ?_⟩
 have hY0:0 < Y:=by
  rcases Nat.eq_zero_or_pos Y with e | e
  ·rw [e,Nat.zero_pow hj] at hY; omega
  ·exact e
 obtain ⟨i,rfl⟩:∃ i,j = i + 1:=⟨j - 1,by omega⟩
 have h1:X * Y ≤ 10 ^ n:=by
  rw [← he,Nat.pow_succ,Nat.mul_comm (Y ^ i) Y,← Nat.mul_assoc]
  exact Nat.le_mul_of_pos_right _ (Nat.pow_pos hY0)
 exact ⟨h1,Nat.le_trans (Nat.le_mul_of_pos_left _ hX) h1⟩
theorem i64_and_one (n:Int):bits .and .i64 n 1 = n % 2:=by
 have h1:(BitVec.ofInt 64 1).toNat = 2 ^ 1 - 1:=by decide
 have key:(BitVec.ofInt 64 n &&& BitVec.ofInt 64 1).toNat = (n % ((2 ^ 64:Nat):Int)).toNat % 2 ^ 1:=by
  rw [BitVec.toNat_and,BitVec.toNat_ofInt,h1,Nat.and_two_pow_sub_one_eq_mod]
 show IntKind.i64.wrap ((BitVec.ofInt 64 n &&& BitVec.ofInt 64 1).toNat:Nat) = n % 2
 rw [key,IntKind.wrap_i64]
 omega

set_option maxHeartbeats 4000000 in
set_option maxRecDepth 100000 in
theorem len64_a (x:Int) (w:World) (h0:0 ≤ x) (h1:x < 256) :
  Calls Tryz.prog 121 #[.int .u64 x] w fun e w' => e = .returned (.int .i64 (Lib.bitLen x.toNat)) ∧ w' = w:=by
 have hs:=tab_size
 have hc:¬ (4294967296:Int) ≤ x:=by omega
 have ha:¬ (65536:Int) ≤ x:=by omega
 have hb:¬ (256:Int) ≤ x:=by omega
 go_enter Tryz.func121,Tryz.ntmps121
 go_wp2
 go_ret
 refine ⟨congrArg Ending.returned (congrArg (Value.int IntKind.i64) ?_),rfl⟩
 rw [tab_at]
 have l:=bl8 x.toNat (by omega)
 rw [wr_small ((Lib.bitLen x.toNat:Nat):Int) (by omega) (by omega)]
 rw [wr_small ((Lib.bitLen x.toNat:Nat):Int) (by omega) (by omega)]

set_option maxHeartbeats 4000000 in
set_option maxRecDepth 100000 in
theorem len64_b (x:Int) (w:World) (h0:256 ≤ x) (h1:x < 65536) :
  Calls Tryz.prog 121 #[.int .u64 x] w fun e w' => e = .returned (.int .i64 (Lib.bitLen x.toNat)) ∧ w' = w:=by
 have hs:=tab_size
 have hc:¬ (4294967296:Int) ≤ x:=by omega
 have ha:¬ (65536:Int) ≤ x:=by omega
 have hb:(256:Int) ≤ x:=by omega
 go_enter Tryz.func121,Tryz.ntmps121
 go_wp2
 go_ret
 refine ⟨congrArg Ending.returned (congrArg (Value.int IntKind.i64) ?_),rfl⟩
 have e:(x / 256).toNat = x.toNat / 256:=by omega
 have l:=bl8 (x.toNat / 256) (by omega)
 have s:=Lib.bitLen_shift8 x.toNat (by omega) (by omega)
 rw [tab_at,e]
 rw [wr_small ((Lib.bitLen (x.toNat / 256):Nat):Int) (by omega) (by omega)]
 rw [wr_small _ (by omega) (by omega)]
 omega

theorem len64_small (x:Nat) (w:World) (h:x < 65536) :
  Calls Tryz.prog 121 #[.int .u64 (x:Nat)] w fun e w' => e = .returned (.int .i64 (Lib.bitLen x:Nat)) ∧ w' = w:=by
 by_cases k:x < 256
 ·exact len64_a (x:Int) w (by omega) (by omega)
 ·exact len64_b (x:Int) w (by omega) (by omega)

set_option maxHeartbeats 1000000 in
theorem blen_small (x:Nat) (w:World) (h:x < 65536) :
  Calls Tryz.prog 108 #[.int .u64 (x:Nat)] w fun e w' => e = .returned (.int .i64 (Lib.bitLen x:Nat)) ∧ w' = w:=by
 have K:=Hj (len64_small x w h)
 have hb:Lib.bitLen x ≤ 16:=Lib.bitLen_le _ 16 (by omega) (by omega)
 generalize Lib.bitLen x = y at *
 go_enter Tryz.func108,Tryz.ntmps108
 go_wp2_with fail
 refine (Uh K).mono ?_
 rintro e w' ⟨rfl,hw⟩
 obtain rfl:=hw.symm
 go_wp2
 go_ret
 exact ⟨rfl,rfl⟩

theorem bitLen_top (k:Nat) (h:k < 65536):k / 2 ^ Lib.bitLen k = 0:=Nat.div_eq_of_lt (bl_lt k k (Nat.le_refl _) (by omega))

theorem pow_half (v k i:Nat):v ^ (k / 2 ^ (i + 1)) * v ^ (k / 2 ^ (i + 1)) * (if k / 2 ^ i % 2 = 1 then v else 1) = v ^ (k / 2 ^ i):=by
 have e:k / 2 ^ (i + 1) = k / 2 ^ i / 2:=by rw [Nat.pow_succ,Nat.div_div_eq_div_mul]
 rw [e,← Nat.pow_add]
 generalize k / 2 ^ i = q
 by_cases h:q % 2 = 1
 ·rw [if_pos h,← Nat.pow_succ]
  congr 1
  omega
 ·rw [if_neg h,Nat.mul_one]
  congr 1
  omega

theorem pow_len {xs zs:List Nat} {n k j:Nat} (ox:Ok xs) (hl:xs.length = n) (hr:Rep (val xs ^ j) zs) (hj:j ≤ k):zs.length ≤ n * k + 1:=by
 refine rep_len_le hr ?_
 have h:=val_lt ox
 rw [hl] at h
 have h1:val xs ^ j ≤ (4294967296 ^ n) ^ j:=Nat.pow_le_pow_left (Nat.le_of_lt h) j
 rw [← Nat.pow_mul] at h1
 have h2:(4294967296:Nat) ^ (n * j) < 4294967296 ^ (n * k + 1):=Nat.pow_lt_pow_right (by decide) (Nat.lt_succ_of_le (Nat.mul_le_mul_left n hj))
 omega

theorem sl_unit (w:World) (x:Nat) (e:TypeId):Sl (w.alloc (.cells #[.int .u32 (x:Nat)] e)) (some ⟨w.heap.size,0,none⟩) 1 1 [x]:=by
 refine ⟨rfl,Nat.le_refl _,by unfold maxLen; omega,.inr ⟨_,_,rfl,?_⟩⟩
 intro i hi
 have:i = 0:=by simp at hi; omega
 subst this
 simp

structure PwR (wr w:World) (v:Value) (t:Nat):Prop where
 has:∃ a m zs,v = .slice a m m ∧ Sl wr a m m zs ∧ Rep t zs ∧ NewAt w.heap.size a
 bel:Below w.heap.size w wr

set_option maxHeartbeats 2000000 in
theorem power_any (a:Option Addr) (n c:Nat) (xs:List Nat) (k:Nat) (w:World) (h:Sl w a n c xs) (ox:Ok xs) (hn:n ≤ 100000) (hk:k ≤ 1024) :
  Calls Tryz.prog 98 #[.slice a n c,.int .i64 (k:Nat)] w fun e w' => NewRep w w' (val xs ^ k) e:=by
 have HL:=Hj h.len
 have H:=Hj h
 have hnk:n * k ≤ 102400000:=by
  have:n * k ≤ 100000 * 1024:=Nat.mul_le_mul hn hk
  omega
 have KB:=Hj (fun w => blen_small k w (by omega))
 have hb:Lib.bitLen k ≤ 16:=Lib.bitLen_le _ 16 (by omega) (by omega)
 have HT:=Hj (bitLen_top k (by omega))
 generalize Lib.bitLen k = y at *
 clear h
 go_enter Tryz.func98,Tryz.ntmps98
 go_wp2_with fail
 refine (Uh KB _).mono ?_
 rintro e w' ⟨rfl,hw⟩
 obtain rfl:=hw.symm
 clear hw KB
 have HR0:=Hj (show PwR (w.alloc (.cells #[.int .u32 1] 94)) w (.slice (some ⟨w.heap.size,0,none⟩) 1 1) (val xs ^ (k / 2 ^ y)) from ⟨⟨some ⟨w.heap.size,0,none⟩,1,[1],rfl,sl_unit w 1 94,by rw [Uh HT,Nat.pow_zero]; exact ⟨Ok.cons (by decide) Ok.nil,.inr (by decide),by simp [val]⟩,fun x hx => by cases hx; exact Nat.le_refl _⟩,(Below.refl w.heap.size w).alloc (Nat.le_refl _) _⟩)
 go_wp2_with fail
 go_loopw [5,6] (fun z iv wr => ∃ i:Nat,i ≤ y ∧ iv = .int .i64 ((i:Int) - 1) ∧ PwR wr w z (val xs ^ (k / 2 ^ i))) (fun _ iv _ => (intOf iv + 1).toNat)
 case atStart => exact ⟨y,Nat.le_refl _,rfl,Uh HR0⟩
 case round =>
  clear HR0
  obtain ⟨i,hi,rfl,⟨az,mz,zs,rfl,hsz,hrz,haz⟩,hbel⟩:=hrel
  rcases i with _ | i
  ·have t0:¬ (0:Int) ≤ ((0:Nat):Int) - 1:=by omega
   rw [Nat.pow_zero,Nat.div_one] at hrz
   have HZ:=Hj (And.intro hsz (And.intro hrz (And.intro haz hbel)))
   clear hsz hrz haz hbel
   go_wp2
   go_ret
   obtain ⟨hsz,hrz,haz,hbel⟩:=Uh HZ
   exact ⟨az,mz,zs,rfl,hsz,hrz,haz,hbel⟩
  ·have t0:((i + 1:Nat):Int) - 1 = (i:Int):=by omega
   rw [t0]
   have t1:(0:Int) ≤ (i:Int):=by omega
   have hml:mz ≤ n * k + 1:=by rw [← hsz.len]; exact pow_len ox (Uh HL) hrz (Nat.div_le_self _ _)
   have KM:=Hj (multiply_any az az mz mz mz mz zs zs wr hsz hsz hrz.ok hrz.ok (by omega))
   rw [hrz.val] at KM
   have HB:=Hj hbel
   have t2:(k:Int) / 2 ^ i = ((k / 2 ^ i:Nat):Int):=by rw [Int.natCast_ediv,Int.natCast_pow]; rfl
   have t3:=i64_and_one ((k / 2 ^ i:Nat):Int)
   have hP:=pow_half (val xs) k i
   have hdk:k / 2 ^ i ≤ k:=Nat.div_le_self _ _
   have hP2:=Hj (fun (zs:List Nat) (hr:Rep (val xs ^ (k / 2 ^ i)) zs) => pow_len ox (Uh HL) hr hdk)
   have hP3:=Hj (fun (zs:List Nat) (hr:Rep (val xs ^ (2 * (k / 2 ^ (i + 1)))) zs) => pow_len (k:=k) ox (Uh HL) hr (by rw [Nat.pow_succ,← Nat.div_div_eq_div_mul]; omega))
   generalize hq0:k / 2 ^ i = q at *
   have HQ0:=Hj hq0
   clear hq0
   generalize hQ:val xs ^ (k / 2 ^ (i + 1)) = Q at *
   have hQ2:=Hj (show Q * Q = val xs ^ (2 * (k / 2 ^ (i + 1))) from by rw [← hQ,← Nat.pow_add]; congr 1; omega)
   clear hsz hrz haz hbel hQ
   go_wp2_with fail
   refine (Uh KM).mono ?_
   rintro e w1 ⟨a1,m1,z1,rfl,hs1,hr1,ha1,hb1⟩
   have hb2:=(Uh HB).trans (hb1.mono (Uh HB).size)
   have ha2:NewAt w.heap.size a1:=fun x hx => Nat.le_trans (Uh HB).size (ha1 x hx)
   by_cases hq:q % 2 = 1
   ·rw [if_pos hq] at hP
    have t4:((q:Int) % 2 == 1) = true:=by simp; omega
    have t5:(q:Int) % 2 = 1:=by omega
    have hl1:m1 ≤ n * k + 1:=by
     rw [← hs1.len]
     exact Uh hP3 z1 (by rw [← Uh hQ2]; exact hr1)
    have KN:=Hj (multiply_any a1 a m1 m1 n c z1 xs w1 hs1 ((Uh H).below hb2) hr1.ok ox (by omega))
    rw [hr1.val,hP] at KN
    have HB2:=Hj hb2
    clear hs1 hr1 ha1 ha2 hb1 hb2 KM hP HB
    go_wp2_with fail
    refine (Uh KN).mono ?_
    rintro e w2 ⟨a2,m2,z2,rfl,hs2,hr2,ha2,hb3⟩
    have HS:=Hj (show PwR w2 w (.slice a2 m2 m2) (val xs ^ q) from ⟨⟨a2,m2,z2,rfl,hs2,hr2,fun x hx => Nat.le_trans (Uh HB2).size (ha2 x hx)⟩,(Uh HB2).trans (hb3.mono (Uh HB2).size)⟩)
    clear hs2 hr2 ha2 hb3 KN HB2
    go_wp2_with fail
    exact ⟨⟨i,by omega,rfl,by rw [Uh HQ0]; exact Uh HS⟩,by show ((i:Int) - 1 + 1).toNat < ((i:Int) + 1).toNat; omega⟩
   ·rw [if_neg hq,Nat.mul_one] at hP
    have t4:((q:Int) % 2 == 1) = false:=by simp; omega
    have t5:¬ (q:Int) % 2 = 1:=by omega
    rw [hP] at hr1
    have HS:=Hj (show PwR w1 w (.slice a1 m1 m1) (val xs ^ q) from ⟨⟨a1,m1,z1,rfl,hs1,hr1,ha2⟩,hb2⟩)
    clear hs1 hr1 ha1 ha2 hb1 hb2 KM hP HB
    go_wp2_with fail
    exact ⟨⟨i,by omega,rfl,by rw [Uh HQ0]; exact Uh HS⟩,by show ((i:Int) - 1 + 1).toNat < ((i:Int) + 1).toNat; omega⟩
def powL (xs:List Nat) (k:Int):List Nat × Int:=if MayL xs then (if k < 0 ∨ 1024 < k then ([],1) else fitL (val xs ^ k.toNat)) else ([],20)

theorem big_len {v E:Nat} (hE:65536 ≤ E) (h:2 ^ E ≤ v):2048 < (limbs v).length:=by
 rcases Nat.lt_or_ge 2048 (limbs v).length with k | k
 ·exact k
 ·exfalso
  have h1:=val_lt (limbs_rep v).ok
  rw [(limbs_rep v).val,pow_limb] at h1
  have:=(Nat.pow_lt_pow_iff_right (by decide:1 < 2)).1 (Nat.lt_of_le_of_lt h h1)
  omega

theorem limbs_len_le {v u:Nat} (h:v ≤ u):(limbs v).length ≤ (limbs u).length:=by
 refine rep_len_le (limbs_rep v) ?_
 have h1:=val_lt (limbs_rep u).ok
 rw [(limbs_rep u).val] at h1
 omega

theorem pow_big {xs:List Nat} {k:Nat} (ox:Ok xs) (nx:Norm xs) (h:65536 ≤ ((bitsN xs:Int) - 1) * (k:Int)):2048 < (limbs (val xs ^ k)).length:=by
 have h0:xs ≠ []:=by
  intro e
  subst e
  simp only [bitsN,if_true] at h
  have:(((0:Nat):Int) - 1) * (k:Int) = -(k:Int):=by rw [show ((0:Nat):Int) - 1 = -1 from rfl,Int.neg_mul,Int.one_mul]
  omega
 have hb:=val_ge_bits ox nx h0
 have e:bitsN xs = bitsL xs:=by unfold bitsN; rw [if_neg h0]
 rw [e] at h
 have h1:(2 ^ (bitsL xs - 1)) ^ k ≤ val xs ^ k:=Nat.pow_le_pow_left hb.2 k
 rw [← Nat.pow_mul] at h1
 refine big_len ?_ h1
 have h2:(((bitsL xs - 1) * k:Nat):Int) = ((bitsL xs:Int) - 1) * (k:Int):=by
  rw [Int.natCast_mul,Int.natCast_sub hb.1]; rfl
 omega

theorem pow_prod {u k:Nat} (hu:u ≤ 100000) (hk:k ≤ 1024):-1024 ≤ ((u:Int) - 1) * (k:Int) ∧ ((u:Int) - 1) * (k:Int) ≤ 102400000:=by
 rcases u with _ | u
 ·have:(((0:Nat):Int) - 1) * (k:Int) = -(k:Int):=by rw [show ((0:Nat):Int) - 1 = -1 from rfl,Int.neg_mul,Int.one_mul]
  omega
 ·have e:(((u + 1:Nat):Int) - 1) * (k:Int) = ((u * k:Nat):Int):=by rw [Int.natCast_mul]; congr 1; omega
  have:u * k ≤ 100000 * 1024:=Nat.mul_le_mul (by omega) hk
  rw [e]
  omega

set_option maxHeartbeats 2000000 in
theorem npow_any (a:Option Addr) (n c:Nat) (xs:List Nat) (k:Int) (w:World) (h:Sl w a n c xs) (ox:Ok xs) :
  Calls Tryz.prog 82 #[.slice a n c,.int .i64 k] w fun e w' => Res2 w w' (powL xs k) e:=by
 have K1:=may_any a n c xs w h
 by_cases m1:MayL xs = true
 ·rw [m1] at K1
  have K1':=Hj K1
  by_cases hk:k < 0
  ·have HC:=Hj (show powL xs k = ([],1) from by simp [powL,m1,hk])
   clear K1 m1 h ox
   go_enter Tryz.func82,Tryz.ntmps82
   go_wp2_with fail
   refine (Uh K1').mono ?_
   rintro e w' ⟨rfl,hw⟩
   obtain rfl:=hw.symm
   go_wp2
   go_ret2
   rw [Uh HC]
   exact ⟨none,0,0,rfl,sl_nil _,newAt_nil _,Below.refl _ _⟩
  ·by_cases hk2:1024 < k
   ·have HC:=Hj (show powL xs k = ([],1) from by simp [powL,m1,hk2])
    clear K1 m1 h ox
    go_enter Tryz.func82,Tryz.ntmps82
    go_wp2_with fail
    refine (Uh K1').mono ?_
    rintro e w' ⟨rfl,hw⟩
    obtain rfl:=hw.symm
    go_wp2
    go_ret2
    rw [Uh HC]
    exact ⟨none,0,0,rfl,sl_nil _,newAt_nil _,Below.refl _ _⟩
   ·obtain ⟨j,rfl⟩:∃ j:Nat,k = (j:Int):=⟨k.toNat,by omega⟩
    have HC:=Hj (show powL xs (j:Int) = fitL (val xs ^ j) from by simp [powL,m1,hk,hk2])
    have nx:=MayL.norm m1
    have hl:n ≤ 2048:=by have:=h.len; have:=MayL.len m1; omega
    have KB:=Hj (bitLen_all a n c xs w h ox (by omega))
    have KP:=Hj (power_any a n c xs j w h ox (by omega) (by omega))
    have HBig:=Hj (pow_big (k:=j) ox nx)
    have hpb:=pow_prod (k:=j) (bitsN_le ox (MayL.len m1)) (by omega)
    have hub:=bitsN_le ox (MayL.len m1)
    generalize bitsN xs = u at *
    generalize hp:((u:Int) - 1) * (j:Int) = p at *
    clear K1 m1 h ox nx
    by_cases hbig:65536 ≤ p
    ·have HF:=Hj (fitL_big (Uh HBig hbig))
     clear KP
     go_enter Tryz.func82,Tryz.ntmps82
     go_wp2_with fail
     refine (Uh K1').mono ?_
     rintro e w' ⟨rfl,hw⟩
     obtain rfl:=hw.symm
     go_wp2_with fail
     refine (Uh KB).mono ?_
     rintro e w' ⟨rfl,hw⟩
     obtain rfl:=hw.symm
     go_wp2
     go_ret2
     rw [Uh HC,Uh HF]
     exact ⟨none,0,0,rfl,sl_nil _,newAt_nil _,Below.refl _ _⟩
    ·go_enter Tryz.func82,Tryz.ntmps82
     go_wp2_with fail
     refine (Uh K1').mono ?_
     rintro e w' ⟨rfl,hw⟩
     obtain rfl:=hw.symm
     go_wp2_with fail
     refine (Uh KB).mono ?_
     rintro e w' ⟨rfl,hw⟩
     obtain rfl:=hw.symm
     go_wp2_with fail
     refine (Uh KP).mono ?_
     rintro e w1 ⟨a',m,zs,rfl,hs,hr,ha,hb⟩
     have KF:=Hj (fit_any a' m m _ zs w1 hs hr)
     have HA:=Hj (And.intro ha hb)
     clear hs hr ha hb KP
     go_wp2_with fail
     refine (Uh KF).mono ?_
     rintro e w' ⟨a2,m2,c2,rfl,hs,ha2,hw⟩
     obtain rfl:=hw.symm
     have HS:=Hj (And.intro hs ha2)
     clear hs ha2 hw
     go_wp2
     go_ret2
     rw [Uh HC]
     refine ⟨a2,m2,c2,rfl,(Uh HS).1,?_,(Uh HA).2⟩
     rcases (Uh HS).2 with e | e
     ·rw [e]; exact (Uh HA).1
     ·rw [e]; exact newAt_nil _
 ·have m1':MayL xs = false:=by simpa using m1
  rw [m1'] at K1
  have K1':=Hj K1
  have HC:=Hj (show powL xs k = ([],20) from by simp [powL,m1'])
  clear K1 m1 m1' h ox
  go_enter Tryz.func82,Tryz.ntmps82
  go_wp2_with fail
  refine (Uh K1').mono ?_
  rintro e w' ⟨rfl,hw⟩
  obtain rfl:=hw.symm
  go_wp2
  go_ret2
  rw [Uh HC]
  exact ⟨none,0,0,rfl,sl_nil _,newAt_nil _,Below.refl _ _⟩
theorem ten_may {n:Nat} (hn:n ≤ 1024):MayL (limbs (10 ^ n)) = true:=MayL.mk (limbs_norm _) (by have:=ten_len (Nat.le_refl (10 ^ n)); omega)
theorem ten_fit {n:Nat} (hn:n ≤ 1024):fitL (10 ^ n) = (limbs (10 ^ n),0):=fit_lt (ten_lt (Nat.le_refl _)) (by omega)
theorem pow_ten {k:Int} {n:Nat} (hk:k = (n:Int)) (hn:n ≤ 1024):powL (limbs 10) k = (limbs (10 ^ n),0):=by
 subst hk
 unfold powL
 rw [if_pos (by decide),if_neg (by omega),limbs_v,Int.toNat_natCast,ten_fit hn]
theorem cat_nil (D:ByteArray):D ++ (⟨#[]⟩:ByteArray) = D:=by
 apply ByteArray.ext
 simp
set_option maxRecDepth 100000 in
set_option maxHeartbeats 8000000 in
theorem trimLeft_nil (w:World):Calls Tryz.prog 56 #[.string ⟨#[]⟩,.string ⟨#[43,45]⟩] w fun e w' => e = .returned (.string ⟨#[]⟩) ∧ w' = w:=by
 go_enter Tryz.func56,Tryz.ntmps56
 go_wp2_with fail
 go_ret
 exact ⟨rfl,rfl⟩
set_option maxRecDepth 100000 in
set_option maxHeartbeats 8000000 in
theorem readPower_nil (w:World):Calls Tryz.prog 37 #[.string ⟨#[]⟩] w fun e w' => e = .returned (.tuple #[.int .i64 0,.bool true]) ∧ Below w.heap.size w w':=by
 have HP:=Hj (hasPrefix_any ⟨#[]⟩ false w rfl)
 have hconv:=run_bytes_of_string (P:=Tryz.prog) w 9 58 5 ⟨#[]⟩ Tryz.underlying9 Tryz.underlying58 Tryz.underlying5
 obtain ⟨wc,hwc⟩:∃ x,w.drew.alloc (.cells (bytesRow ⟨#[]⟩ (grownCap w (ByteArray.mk #[]).size 0 5)) 5 ((bytesRow ⟨#[]⟩ (grownCap w (ByteArray.mk #[]).size 0 5)).size,(bytesRow ⟨#[]⟩ (grownCap w (ByteArray.mk #[]).size 0 5)).size + 1)) = x:=⟨_,rfl⟩
 rw [hwc] at hconv
 have hbc:Below w.heap.size w wc:=by rw [← hwc]; exact (Below.refl _ _).drew.alloc (by simp) _
 have HBc:=Hj hbc
 obtain ⟨cp,hcp⟩:∃ c,grownCap w (ByteArray.mk #[]).size 0 5 = c:=⟨_,rfl⟩
 rw [hcp] at hconv
 clear hbc hwc hcp
 go_enter Tryz.func37,Tryz.ntmps37
 go_wp2_with fail
 refine (Uh HP).mono ?_
 rintro _ _ ⟨rfl,hw⟩
 obtain rfl:=hw.symm
 clear hw
 go_wp2_with fail
 refine (trimLeft_nil _).mono ?_
 rintro _ _ ⟨rfl,hw⟩
 obtain rfl:=hw.symm
 clear hw
 go_wp2_with fail
 go_loopw [5,14] (fun nv cv wr => nv = .int .i64 0 ∧ cv = .int .i64 0 ∧ Hid (Below w.heap.size w wr)) (fun _ _ _ => 0)
 case atStart => exact ⟨rfl,rfl,Uh HBc⟩
 case round =>
  obtain ⟨rfl,rfl,HB⟩:=hrel
  go_wp2_with fail
  go_ret2
  exact ⟨rfl,Uh HB⟩
end Go.Proofs.YtjoaijbhpgekoaaGreatDoor
