/- RAdd -/
import Derived.Test.YtpbcnkcnjnefiaaGreatDoorMul
import Derived.Test.YtpbcnkcnjnefiaaGreatDoorShN
import Derived.Test.YtpbcnkcnjnefiaaGreatDoorCmp
namespace Go.Proofs.YtpbcnkcnjnefiaaGreatDoor
open Go.RowKit Go.Deep
set_option linter.unusedVariables false
theorem valF_ge (xs:List Nat) (n:Nat) (h:xs.length ≤ n):valF (fun i => xs.getD i 0) n = val xs:=by
 rw [← valF_pad xs n h]
 apply valF_congr
 intro i hi
 by_cases e:i < xs.length
 ·simp [e]
 ·rw [if_neg e]; exact getD_ge (by omega)

theorem one_int {k:IntKind} {x:Int}:∀ u ∈ [Value.int k x],u.oneCell' = true:=by
 intro u hu; simp at hu; subst hu; rfl

structure PlusR (wr w:World) (s t:Nat) (v:Value) (k c:Nat) (zs:List Nat):Prop where
 len:zs.length = k
 ok:Ok zs
 cle:c ≤ 1
 own:wr.ownsRow w.heap.size 84 1 v k (vals zs)
 val:val zs + 4294967296 ^ k * c = s + t
 bel:Below w.heap.size w wr

theorem PlusR.step {wr w w1:World} {s t:Nat} {v v':Value} {k c:Nat} {zs:List Nat} {o:Obj} (h:PlusR wr w s t v k c zs) (x y:Nat) (hx:x < 4294967296) (hy:y < 4294967296)
  (hown:w1.ownsRow w.heap.size 84 1 v' (k + 1) (vals zs ++ [.int .u32 (adl x y c:Nat)])) (hg:(wr.alloc o).grownBy w1 v.ownBlock) :
  PlusR w1 w (s + 4294967296 ^ k * x) (t + 4294967296 ^ k * y) v' (k + 1) (adc x y c) (zs ++ [adl x y c]):=by
 have hs:=h.bel.size
 refine ⟨by simp [h.len],?_,adc_le x y c hx hy h.cle,by simpa [vals] using hown,?_,?_⟩
 ·intro z hz
  rcases List.mem_append.1 hz with hz | hz
  ·exact h.ok z hz
  ·simp at hz; subst hz; exact adl_lt _ _ _
 ·rw [val_append,h.len]
  simp only [Go.Proofs.YtpbcnkcnjnefiaaGreatDoor.val,Nat.mul_zero,Nat.add_zero]
  have e:=ad_eq x y c
  rw [Nat.pow_succ]
  have:4294967296 ^ k * adl x y c + 4294967296 ^ k * 4294967296 * adc x y c = 4294967296 ^ k * x + 4294967296 ^ k * y + 4294967296 ^ k * c:=by
   rw [Nat.mul_assoc,← Nat.mul_add,e,Nat.mul_add,Nat.mul_add]
  have:=h.val
  omega
 ·exact Below.grown (h.bel.alloc (by omega) o) hg (by simp; omega) (fun k hk => (own_ge h.own k hk).1)

theorem own_sl {w:World} {base k:Nat} {v:Value} {zs:List Nat} (h:w.ownsRow base 84 1 v k (vals zs)):∃ a c,v = .slice a k c ∧ Sl w a k c zs ∧ NewAt base a:=by
 have hl:zs.length = k:=by simpa [vals] using h.1
 rcases h.2 with ⟨e,h0⟩ | ⟨g,cap,cur,e,hb,h5,h6,h7,h8,h9⟩
 ·subst e h0
  have:zs = []:=List.eq_nil_of_length_eq_zero hl
  subst this
  exact ⟨none,0,rfl,⟨rfl,Nat.le_refl _,Nat.zero_le _,.inl rfl⟩,fun x hx => by cases hx⟩
 ·subst e
  exact ⟨_,_,rfl,sl_of_own h,fun x hx => by cases hx; exact hb⟩

theorem minus_arith {P A t s c l y x b:Nat} (h1:A + t = s + P * c) (e:l + y + c = x + 4294967296 * b):A + P * l + (t + P * y) = s + P * x + P * 4294967296 * b:=by
 have h2:P * l + P * y + P * c = P * x + P * 4294967296 * b:=by
  rw [← Nat.mul_add,← Nat.mul_add,e,Nat.mul_add,Nat.mul_assoc]
 generalize P * l = a1 at *
 generalize P * y = a2 at *
 generalize P * c = a3 at *
 generalize P * x = a4 at *
 generalize P * 4294967296 * b = a5 at *
 omega

structure MinusR (wr w:World) (s t:Nat) (v:Value) (k c:Nat) (zs:List Nat):Prop where
 len:zs.length = k
 ok:Ok zs
 cle:c ≤ 1
 own:wr.ownsRow w.heap.size 84 1 v k (vals zs)
 val:val zs + t = s + 4294967296 ^ k * c
 bel:Below w.heap.size w wr

theorem MinusR.step {wr w w1:World} {s t:Nat} {v v':Value} {k c:Nat} {zs:List Nat} {o:Obj} (h:MinusR wr w s t v k c zs) (x y:Nat) (hx:x < 4294967296) (hy:y < 4294967296)
  (hown:w1.ownsRow w.heap.size 84 1 v' (k + 1) (vals zs ++ [.int .u32 (lim x y c:Nat)])) (hg:(wr.alloc o).grownBy w1 v.ownBlock) :
  MinusR w1 w (s + 4294967296 ^ k * x) (t + 4294967296 ^ k * y) v' (k + 1) (bor x (y + c)) (zs ++ [lim x y c]):=by
 have hs:=h.bel.size
 refine ⟨by simp [h.len],?_,bor_le _ _,by simpa [vals] using hown,?_,?_⟩
 ·intro z hz
  rcases List.mem_append.1 hz with hz | hz
  ·exact h.ok z hz
  ·simp at hz; subst hz; exact lim_lt _ _ _
 ·rw [val_append,h.len]
  simp only [Go.Proofs.YtpbcnkcnjnefiaaGreatDoor.val,Nat.mul_zero,Nat.add_zero]
  rw [Nat.pow_succ]
  exact minus_arith h.val (lim_eq x y c hx hy h.cle)
 ·exact Below.grown (h.bel.alloc (by omega) o) hg (by simp; omega) (fun k hk => (own_ge h.own k hk).1)
theorem make_nl (n l:Nat) (h:n + l + 1 ≤ 70368744177600) (w:World):(Instr.makeSlice 22 (.int .i64 ((n:Int) + (l:Int) + 1)) (.int .i64 ((n:Int) + (l:Int) + 1))).run Tryz.prog w = .ok (.slice (some ⟨w.heap.size,0,none⟩) (n + l + 1) (n + l + 1)) (w.alloc (.cells (madeCells #[.int .u32 0] (n + l + 1)) 84)):=by
 have:=make_len (n + l + 1) h w
 rw [show ((n + l + 1:Nat):Int) = (n:Int) + (l:Int) + 1 from by omega] at this
 exact this

set_option maxHeartbeats 2000000 in
theorem shl_some (b off n c:Nat) (xs:List Nat) (w:World) (k l s:Nat) (hl:xs.length = n) (hc:Cells w b off xs) (ox:Ok xs) (hkl:(k:Int) / 32 = (l:Int)) (hks:(k:Int) % 32 = (s:Int)) (hs32:s < 32) (hk0:k ≤ 65536) (hl0:l ≤ 2048) (hn:0 < n) (hn2:n ≤ 2048) :
  Calls Tryz.prog 93 #[.slice (some ⟨b,off,none⟩) n c,.int .i64 (k:Nat)] w fun e w' => NewRep w w' (val xs * 2 ^ k) e:=by
 have hmk:=fun w => make_nl n l (by omega) w
 have hne:((n:Int) == 0) = false:=by simp; omega
 have HL:=Hd hl
 have HT:=Hd (sh_total (v:=val xs) (k:=k) (l:=l) (s:=s) (by omega) (by omega))
 clear hl
 go_enter Tryz.func93,Tryz.ntmps93
 go_wp2_with fail
 rw [hks]
 clear hkl hks hk0
 go_loopw [25] (fun i wr => ∃ j:Nat,∃ g:Nat → Nat,j ≤ n ∧ i = .int .i64 j ∧ ShR wr w (n + l + 1) l s xs j g) (fun i _ => n - (intOf i).toNat)
 case atStart => exact ⟨0,_,Nat.zero_le _,rfl,ShR.begin w (n + l + 1) l s xs hs32⟩
 case round =>
  obtain ⟨j,g,hj,rfl,hR⟩:=hrel
  by_cases hlt:j < n
  ·have hlt':(j:Int) < (n:Int):=by omega
   have hb1:(l:Int) + (j:Int) < (n:Int) + (l:Int) + 1:=by omega
   have hb2:(l:Int) + (j:Int) + 1 < (n:Int) + (l:Int) + 1:=by omega
   have g0:=hc j (by rw [Uh HL]; exact hlt)
   have g1:wr.cell? ⟨b,off + j,none⟩ = _:=(ck hR.bel g0)
   have g2:=hR.fn (l + j) (by omega)
   have g3:=hR.fn (l + j + 1) (by omega)
   simp only [Nat.zero_add] at g2 g3
   have c1:=g2.1
   have c2:=g2.2
   have c3:=g3.1
   have c4:=g3.2
   have bx:=ox.getD j
   have e0:=sv_int (x:=xs.getD j 0) (s:=s) bx hs32
   have e1:=slo_int (xs.getD j 0) s
   have e2:=shi_int (xs.getD j 0) s
   have e3:=or_int (x:=xs.getD j 0) hs32 hR.top
   have b1:=sv_lt (x:=xs.getD j 0) bx hs32
   have b2:shi (xs.getD j 0) s < 4294967296:=by have:=shi_lt (x:=xs.getD j 0) bx hs32; have:=(pow_s hs32).2; omega
   have HS:=Hd (hR.step hs32 (by omega) ox)
   generalize xs.getD j 0 = x at *
   generalize g (l + j) = o at *
   generalize g (l + j + 1) = o2 at *
   clear hR g0 g2 g3
   go_wp2
   exact ⟨⟨j + 1,_,by omega,by go_num,Uh HS⟩,by simp [intOf]; omega⟩
  ·have hjn:j = n:=by omega
   subst hjn
   have hv:valF g (j + l + 1) = val xs * 2 ^ k:=by
    have:=hR.val
    rw [← Uh HL,valF_list,Uh HT,Uh HL,Nat.add_comm l j] at this
    exact this
   have KT:=trim_any _ (j + l + 1) (j + l + 1) _ wr (hR.fn.sl (Nat.le_refl _) (by unfold maxLen; omega)) (lst_ok hR.ok)
   rw [lst_val,hv] at KT
   have KT':=Hd KT
   have HB:=Hd hR.bel
   clear hR KT hv
   go_wp2_with fail
   refine (Uh KT').mono ?_
   rintro e w3 ⟨a',m,zs,rfl,hs,hr,ha,rfl⟩
   go_wp2
   go_ret
   refine ⟨a',m,zs,rfl,hs,hr,?_,Uh HB⟩
   intro x hx
   rcases ha with rfl | rfl
   ·cases hx; exact Nat.le_refl _
   ·cases hx

set_option maxHeartbeats 400000 in
theorem shl_nil (a:Option Addr) (c:Nat) (k:Int) (w:World) :
  Calls Tryz.prog 93 #[.slice a 0 c,.int .i64 k] w fun e w' => e = .returned (.slice none 0 0) ∧ w' = w:=by
 go_enter Tryz.func93,Tryz.ntmps93
 go_wp2
 go_ret
 exact ⟨rfl,rfl⟩

theorem shl_any (a:Option Addr) (n c:Nat) (xs:List Nat) (w:World) (k:Nat) (h:Sl w a n c xs) (ox:Ok xs) (hn:n ≤ 2048) (hk:k ≤ 65536) :
  Calls Tryz.prog 93 #[.slice a n c,.int .i64 (k:Nat)] w fun e w' => NewRep w w' (val xs * 2 ^ k) e:=by
 by_cases h0:xs = []
 ·have hl:=h.len
  subst h0
  simp at hl
  subst hl
  refine (shl_nil a c k w).mono ?_
  rintro e w' ⟨rfl,rfl⟩
  exact ⟨none,0,[],rfl,sl_nil _,⟨Ok.nil,.inl rfl,by simp [val]⟩,newAt_nil _,Below.refl _ _⟩
 ·have hp:0 < xs.length:=List.length_pos_iff.2 h0
  rcases h.cells with e | ⟨b,off,rfl,hc⟩
  ·exact absurd e h0
  ·exact shl_some b off n c xs w k (k / 32) (k % 32) h.len hc ox (by omega) (by omega) (by omega) hk (by omega) (by have:=h.len; omega) hn

def chk (xs:List Nat) (k:Int):Int:=if MayL xs then (if 0 ≤ k ∧ k ≤ 65536 then 0 else 1) else 20

set_option maxHeartbeats 800000 in
theorem check_any (a:Option Addr) (n c:Nat) (xs:List Nat) (w:World) (k:Int) (h:Sl w a n c xs) :
  Calls Tryz.prog 91 #[.slice a n c,.int .i64 k] w fun e w' => e = .returned (.int .i64 (chk xs k)) ∧ w' = w:=by
 have K1:=may_any a n c xs w h
 by_cases m1:MayL xs = true
 ·rw [m1] at K1
  have K1':=Hd K1
  by_cases hlo:k < 0
  ·have HC:=Hd (show chk xs k = 1 from by unfold chk; rw [m1]; simp; omega)
   clear K1 m1 h
   go_enter Tryz.func91,Tryz.ntmps91
   go_wp2_with fail
   refine (Uh K1').mono ?_
   rintro e w' ⟨rfl,hw⟩
   obtain rfl:=hw.symm
   go_wp2
   go_ret
   exact ⟨by rw [Uh HC]; rfl,rfl⟩
  ·by_cases hhi:65536 < k
   ·have HC:=Hd (show chk xs k = 1 from by unfold chk; rw [m1]; simp; omega)
    clear K1 m1 h
    go_enter Tryz.func91,Tryz.ntmps91
    go_wp2_with fail
    refine (Uh K1').mono ?_
    rintro e w' ⟨rfl,hw⟩
    obtain rfl:=hw.symm
    go_wp2
    go_ret
    exact ⟨by rw [Uh HC]; rfl,rfl⟩
   ·have HC:=Hd (show chk xs k = 0 from by unfold chk; rw [m1]; simp; omega)
    clear K1 m1 h
    go_enter Tryz.func91,Tryz.ntmps91
    go_wp2_with fail
    refine (Uh K1').mono ?_
    rintro e w' ⟨rfl,hw⟩
    obtain rfl:=hw.symm
    go_wp2
    go_ret
    exact ⟨by rw [Uh HC]; rfl,rfl⟩
 ·have m1':MayL xs = false:=by simpa using m1
  rw [m1'] at K1
  have K1':=Hd K1
  have HC:=Hd (show chk xs k = 20 from by unfold chk; rw [m1']; simp)
  clear K1 m1 m1' h
  go_enter Tryz.func91,Tryz.ntmps91
  go_wp2_with fail
  refine (Uh K1').mono ?_
  rintro e w' ⟨rfl,hw⟩
  obtain rfl:=hw.symm
  go_wp2
  go_ret
  exact ⟨by rw [Uh HC]; rfl,rfl⟩

def shlL (xs:List Nat) (k:Int):List Nat × Int:=if MayL xs then (if 0 ≤ k ∧ k ≤ 65536 then fitL (val xs * 2 ^ k.toNat) else ([],1)) else ([],20)
def shrL (xs:List Nat) (k:Int):List Nat × Int:=if MayL xs then (if 0 ≤ k ∧ k ≤ 65536 then (limbs (val xs / 2 ^ k.toNat),0) else ([],1)) else ([],20)

theorem shlL_bad {xs:List Nat} {k:Int} (h:chk xs k ≠ 0):shlL xs k = ([],chk xs k):=by
 unfold shlL chk at *
 cases hm:MayL xs <;> simp [hm] at h ⊢
 by_cases hk:0 ≤ k ∧ k ≤ 65536
 ·have:=h hk.1
  omega
 ·simp [hk]
theorem shrL_bad {xs:List Nat} {k:Int} (h:chk xs k ≠ 0):shrL xs k = ([],chk xs k):=by
 unfold shrL chk at *
 cases hm:MayL xs <;> simp [hm] at h ⊢
 by_cases hk:0 ≤ k ∧ k ≤ 65536
 ·have:=h hk.1
  omega
 ·simp [hk]
theorem chk_ok {xs:List Nat} {k:Int} (h:chk xs k = 0):MayL xs = true ∧ 0 ≤ k ∧ k ≤ 65536:=by
 unfold chk at h
 cases hm:MayL xs
 ·simp [hm] at h
 ·by_cases hk:0 ≤ k ∧ k ≤ 65536
  ·exact ⟨rfl,hk⟩
  ·simp [hm,hk] at h

set_option maxHeartbeats 800000 in
theorem nshl_any (a:Option Addr) (n c:Nat) (xs:List Nat) (w:World) (k:Int) (h:Sl w a n c xs) (ox:Ok xs) :
  Calls Tryz.prog 46 #[.slice a n c,.int .i64 k] w fun e w' => Res2 w w' (shlL xs k) e:=by
 have KC:=check_any a n c xs w k h
 by_cases hc:chk xs k = 0
 ·obtain ⟨m1,k0,k1⟩:=chk_ok hc
  rw [hc] at KC
  have KC':=Hd KC
  obtain ⟨k,rfl⟩:=Int.eq_ofNat_of_zero_le k0
  have HC:=Hd (show shlL xs k = fitL (val xs * 2 ^ k) from by unfold shlL; rw [m1]; simp; omega)
  have KS:=Hd (shl_any a n c xs w k h ox (by have:=h.len; have:=MayL.len m1; omega) (by omega))
  clear KC hc m1 h ox
  go_enter Tryz.func46,Tryz.ntmps46
  go_wp2_with fail
  refine (Uh KC').mono ?_
  rintro e w' ⟨rfl,hw⟩
  obtain rfl:=hw.symm
  go_wp2_with fail
  refine (Uh KS).mono ?_
  rintro e w1 ⟨a',m,zs,rfl,hs,hr,ha,hb⟩
  have K4:=Hd (fit_any a' m m _ zs w1 hs hr)
  have HA:=Hd ha
  have HB:=Hd hb
  clear hs hr ha hb KS
  go_wp2_with fail
  refine (Uh K4).mono ?_
  rintro e w2 ⟨a2',m2,c2',rfl,hs2,ha2,rfl⟩
  go_wp2
  go_ret2
  rw [Uh HC]
  refine ⟨a2',m2,c2',rfl,hs2,?_,Uh HB⟩
  rcases ha2 with rfl | rfl
  ·exact Uh HA
  ·exact newAt_nil _
 ·have hb:(chk xs k != 0) = true:=by rw [bne_iff_ne]; exact hc
  have HC:=Hd (shlL_bad hc)
  have KC':=Hd KC
  generalize chk xs k = cc at *
  clear KC hc h ox
  go_enter Tryz.func46,Tryz.ntmps46
  go_wp2_with fail
  refine (Uh KC').mono ?_
  rintro e w' ⟨rfl,hw⟩
  obtain rfl:=hw.symm
  go_wp2
  go_ret2
  rw [Uh HC]
  exact ⟨none,0,0,rfl,sl_nil _,newAt_nil _,Below.refl _ _⟩
theorem val_drop {xs:List Nat} (ox:Ok xs) (i:Nat):val (xs.drop i) = val xs / 4294967296 ^ i:=by
 by_cases h:i ≤ xs.length
 ·have e:=val_split xs i h
  have b:=val_lt (ox.take i)
  rw [List.length_take,Nat.min_eq_left h] at b
  rw [e,Nat.add_mul_div_left _ _ (pow_pos i),Nat.div_eq_of_lt b,Nat.zero_add]
 ·rw [List.drop_eq_nil_of_le (by omega)]
  have b:=val_lt ox
  have:4294967296 ^ xs.length ≤ 4294967296 ^ i:=pow_mono (by omega)
  rw [Nat.div_eq_of_lt (by omega)]
  rfl

theorem val_drop_step (xs:List Nat) (i:Nat):val (xs.drop i) = xs.getD i 0 + 4294967296 * val (xs.drop (i + 1)):=by
 by_cases h:i < xs.length
 ·rw [drop_cons h]; rfl
 ·rw [List.drop_eq_nil_of_le (by omega),List.drop_eq_nil_of_le (by omega),getD_ge (by omega)]; rfl

theorem valF_digits (v:Nat):∀ (m:Nat),valF (fun i => v / 4294967296 ^ i % 4294967296) m = v % 4294967296 ^ m
 | 0 => by simp [valF,Nat.mod_one]
 | m + 1 => by
  simp only [valF]
  rw [valF_digits v m,Nat.pow_succ,Nat.mod_mul]

def dv (lo hi:Nat):Nat:=lo + 4294967296 * hi
def srd (lo hi s:Nat):Nat:=dv lo hi / 2 ^ s % 4294967296
theorem srd_lt (lo hi s:Nat):srd lo hi s < 4294967296:=by unfold srd; exact Nat.mod_lt _ (by decide)
theorem dv_int {lo hi:Nat} (h1:lo < 4294967296) (h2:hi < 4294967296):bits .or .u64 ((hi:Int) * 4294967296) (lo:Int) = ((dv lo hi:Nat):Int):=or_halves hi lo h2 h1
theorem srd_int (lo hi s:Nat):((dv lo hi:Nat):Int) / 2 ^ s % 4294967296 = ((srd lo hi s:Nat):Int):=by
 unfold srd
 rw [Int.natCast_emod,Int.natCast_ediv,Int.natCast_pow]
 rfl
theorem dv_lt {lo hi:Nat} (h1:lo < 4294967296) (h2:hi < 4294967296):dv lo hi < 18446744073709551616:=by unfold dv; omega

def shF (xs:List Nat) (l s i:Nat):Nat:=srd (xs.getD (l + i) 0) (xs.getD (l + i + 1) 0) s

theorem shF_digit {xs:List Nat} (ox:Ok xs) {l s:Nat} (hs:s < 32) (i:Nat):shF xs l s i = val xs / (4294967296 ^ l * 2 ^ s) / 4294967296 ^ i % 4294967296:=by
 have e1:=val_drop_step xs (l + i)
 have e2:=val_drop_step xs (l + i + 1)
 have e3:=val_drop ox (l + i)
 have hp:=pow_split hs
 have hpos:=(pow_s hs).1
 rw [Nat.div_div_eq_div_mul,show 4294967296 ^ l * 2 ^ s * 4294967296 ^ i = 4294967296 ^ (l + i) * 2 ^ s from by rw [Nat.pow_add,Nat.mul_assoc,Nat.mul_comm (2 ^ s),← Nat.mul_assoc],← Nat.div_div_eq_div_mul,← e3,e1,e2]
 unfold shF srd dv
 generalize val (xs.drop (l + i + 1 + 1)) = r
 generalize xs.getD (l + i) 0 = a
 generalize xs.getD (l + i + 1) 0 = b
 have e4:a + 4294967296 * (b + 4294967296 * r) = (a + 4294967296 * b) + 2 ^ s * (4294967296 * (2 ^ (32 - s) * r)):=by
  have:2 ^ s * (4294967296 * (2 ^ (32 - s) * r)) = 4294967296 * (4294967296 * r):=by
   rw [Nat.mul_left_comm,← Nat.mul_assoc (2 ^ s),hp]
  rw [this]; omega
 rw [e4,Nat.add_mul_div_left _ _ (by omega),Nat.add_mul_mod_self_left]

theorem shr_val {xs:List Nat} (ox:Ok xs) {n k l s:Nat} (hl:xs.length = n) (hln:l ≤ n) (hk:k / 32 = l) (hs:k % 32 = s):valF (shF xs l s) (n - l) = val xs / 2 ^ k:=by
 have hs32:s < 32:=by omega
 rw [valF_congr (fun i _ => shF_digit ox hs32 i),valF_digits]
 have e:=sh_total (v:=1) hk hs
 rw [Nat.one_mul,Nat.one_mul,Nat.mul_comm] at e
 rw [e]
 apply Nat.mod_eq_of_lt
 have b:=val_lt ox
 rw [hl] at b
 rw [← e,← Nat.div_div_eq_div_mul]
 have h1:val xs / 4294967296 ^ l < 4294967296 ^ (n - l):=by
  rw [Nat.div_lt_iff_lt_mul (pow_pos l),← Nat.pow_add,show n - l + l = n from by omega]
  exact b
 exact Nat.lt_of_le_of_lt (Nat.div_le_self _ _) h1

theorem make_sub (n l:Nat) (hle:l ≤ n) (h:n ≤ 70368744177600) (w:World):(Instr.makeSlice 22 (.int .i64 ((n:Int) - (l:Int))) (.int .i64 ((n:Int) - (l:Int)))).run Tryz.prog w = .ok (.slice (some ⟨w.heap.size,0,none⟩) (n - l) (n - l)) (w.alloc (.cells (madeCells #[.int .u32 0] (n - l)) 84)):=by
 have:=make_len (n - l) (by omega) w
 rw [show ((n - l:Nat):Int) = (n:Int) - (l:Int) from by omega] at this
 exact this

theorem sr_step {wr w:World} {m j l s:Nat} {xs:List Nat} (hf:Fn wr w.heap.size 0 m (fun i => if i < j then shF xs l s i else 0)) (hlt:j < m) (hb:Below w.heap.size w wr) :
  Fn (wr.setCell ⟨w.heap.size,j,none⟩ (.int .u32 (srd (xs.getD (l + j) 0) (xs.getD (l + j + 1) 0) s:Nat))) w.heap.size 0 m (fun i => if i < j + 1 then shF xs l s i else 0) ∧ Below w.heap.size w (wr.setCell ⟨w.heap.size,j,none⟩ (.int .u32 (srd (xs.getD (l + j) 0) (xs.getD (l + j + 1) 0) s:Nat))):=by
 refine ⟨?_,hb.setCell (Nat.le_refl _) _⟩
 have h:=hf.set j (srd (xs.getD (l + j) 0) (xs.getD (l + j + 1) 0) s) hlt
 simp only [Nat.zero_add] at h
 refine h.congr ?_
 intro i hi
 by_cases e:i = j
 ·simp [e,shF]
 ·by_cases e2:i < j
  ·simp [e,e2,show i < j + 1 from by omega]
  ·simp [e,e2,show ¬ i < j + 1 from by omega]

theorem fn_drewN {w:World} {b off n:Nat} {f:Nat → Nat} (h:Fn w b off n f) (k:Nat):Fn (w.drewN k) b off n f:=h

def Fz (w:World) (a:Option Addr) (m:Nat):Prop:=∀ x,a = some x → ∀ i,i < m → w.frozen? ⟨x.block,x.off + i,none⟩ = false
theorem Fz.nil (w:World) (m:Nat):Fz w none m:=fun x hx => by cases hx
def NewRepF (w w':World) (v:Nat) (e:Ending):Prop :=
 ∃ a' m ys,e = .returned (.slice a' m m) ∧ Sl w' a' m m ys ∧ Rep v ys ∧ NewAt w.heap.size a' ∧ Below w.heap.size w w' ∧ Fz w' a' m
theorem NewRepF.rep {w w':World} {v:Nat} {e:Ending} (h:NewRepF w w' v e):NewRep w w' v e:=by
 obtain ⟨a',m,ys,h1,h2,h3,h4,h5,_⟩:=h
 exact ⟨a',m,ys,h1,h2,h3,h4,h5⟩
theorem rep_len_leS {v j:Nat} {zs:List Nat} (h:Rep v zs) (hv:v < 4294967296 ^ j):zs.length ≤ j:=by
 rcases Nat.lt_or_ge j zs.length with k | k
 ·exfalso
  have hz:zs ≠ []:=by intro e; rw [e] at k; simp at k
  have h1:=val_ge_of_norm h.norm hz
  rw [h.val] at h1
  have h2:4294967296 ^ j ≤ 4294967296 ^ (zs.length - 1):=pow_mono (by omega)
  omega
 ·exact k

set_option maxHeartbeats 2000000 in
theorem shr_some (b off n c:Nat) (xs:List Nat) (w:World) (k l s:Nat) (hsl:Sl w (some ⟨b,off,none⟩) n c xs) (hc:Cells w b off xs) (ox:Ok xs) (hkl:(k:Int) / 32 = (l:Int)) (hks:(k:Int) % 32 = (s:Int)) (hs32:s < 32) (hk0:k ≤ 65536) (hln:l < n) (hn2:n ≤ 2048) :
  Calls Tryz.prog 178 #[.slice (some ⟨b,off,none⟩) n c,.int .i64 (k:Nat)] w fun e w' => NewRepF w w' (val xs / 2 ^ k) e:=by
 have hmk:=fun w => make_sub n l (by omega) (by omega) w
 have hge:¬ (n:Int) ≤ (l:Int):=by omega
 have HL:=Hd hsl.len
 have HT:=Hd (shr_val ox hsl.len (by omega) (show k / 32 = l by omega) (show k % 32 = s by omega))
 go_enter Tryz.func178,Tryz.ntmps178
 go_wp2_with fail
 try rw [hks]
 clear hkl hks hk0
 have hnl:((n - l:Nat):Int) = (n:Int) - (l:Int):=by omega
 go_loopw [25] (fun i wr => ∃ j:Nat,j ≤ n - l ∧ i = .int .i64 j ∧ Fn wr w.heap.size 0 (n - l) (fun i => if i < j then shF xs l s i else 0) ∧ Below w.heap.size w wr) (fun i _ => n - l - (intOf i).toNat)
 case atStart => exact ⟨0,Nat.zero_le _,rfl,by simpa using Fn.made w (n - l) _,bAl⟩
 case round =>
  obtain ⟨j,hj,rfl,hf,hbel⟩:=hrel
  by_cases hlt:j < n - l
  ·have hlt':(j:Int) < (n:Int) - (l:Int):=by omega
   have hb1:(l:Int) + (j:Int) < (n:Int):=by omega
   have g0:=hc (l + j) (by rw [Uh HL]; omega)
   have g1:wr.cell? ⟨b,off + (l + j),none⟩ = _:=(ck hbel g0)
   have c1:=(hf j hlt).1
   have c2:=(hf j hlt).2
   simp only [Nat.zero_add] at c1 c2
   generalize ((if j < j then shF xs l s j else 0:Nat):Int) = old at c1
   have KL:=fun q => limbAt_any (some ⟨b,off,none⟩) n c xs ((l:Int) + (j:Int) + 1) (wr.drewN q) ((hsl.below hbel).drewN q) (by omega)
   rw [show ((l:Int) + (j:Int) + 1).toNat = l + j + 1 from by omega] at KL
   have KL':=Hd KL
   have bx:=ox.getD (l + j)
   have bY:=ox.getD (l + j + 1)
   have e0:=dv_int (lo:=xs.getD (l + j) 0) (hi:=xs.getD (l + j + 1) 0) bx bY
   have e1:=srd_int (xs.getD (l + j) 0) (xs.getD (l + j + 1) 0) s
   have b1:=dv_lt (lo:=xs.getD (l + j) 0) (hi:=xs.getD (l + j + 1) 0) bx bY
   have HS:=Hd (sr_step hf hlt hbel)
   generalize xs.getD (l + j) 0 = x at *
   generalize xs.getD (l + j + 1) 0 = y at *
   clear hf hbel g0 KL
   go_wp2_with fail
   go_quiet ((go_at_call 148; exact Calls.quiet_of_same (Uh KL' _)))
   go_wp2
   exact ⟨⟨j + 1,by omega,by go_num,fn_drewN (Uh HS).1 _,bel_drewN (Uh HS).2 _⟩,by simp [intOf]; omega⟩
  ·have hjn:j = n - l:=by omega
   have hf2:Fn wr w.heap.size 0 (n - l) (shF xs l s):=hf.congr (fun i hi => by rw [hjn]; simp [hi])
   have KT:=trim_any _ (n - l) (n - l) _ wr (hf2.sl (Nat.le_refl _) (by unfold maxLen; omega)) (lst_ok (fun i _ => srd_lt _ _ _))
   rw [lst_val,Uh HT] at KT
   have KT':=Hd KT
   have HB:=Hd hbel
   have HF2:=Hd hf2
   have HVL:=Hd (show val xs / 2 ^ k < 4294967296 ^ (n - l) from by rw [← Uh HT]; exact valF_lt (fun i _ => srd_lt _ _ _))
   have hlt':¬ (j:Int) < (n:Int) - (l:Int):=by omega
   clear hf hf2 KT hbel hjn
   go_wp2_with fail
   refine (Uh KT').mono ?_
   rintro e w3 ⟨a',m,zs,rfl,hs,hr,ha,rfl⟩
   go_wp2
   go_ret
   have hml:m ≤ n - l:=by rw [← hs.len]; exact rep_len_leS hr (Uh HVL)
   refine ⟨a',m,zs,rfl,hs,hr,?_,Uh HB,?_⟩
   ·intro x hx
    rcases ha with rfl | rfl
    ·cases hx; exact Nat.le_refl _
    ·cases hx
   ·intro x hx i hi
    rcases ha with rfl | rfl
    ·cases hx; exact (Uh HF2 i (by omega)).2
    ·cases hx

set_option maxHeartbeats 400000 in
theorem shr_out (a:Option Addr) (n c k l s:Nat) (w:World) (hk0:k ≤ 65536) (hl0:l ≤ 2048) (hs0:s < 32) (hkl:(k:Int) / 32 = (l:Int)) (hks:(k:Int) % 32 = (s:Int)) (hge:(n:Int) ≤ (l:Int)) :
  Calls Tryz.prog 178 #[.slice a n c,.int .i64 (k:Nat)] w fun e w' => e = .returned (.slice none 0 0) ∧ w' = w:=by
 go_enter Tryz.func178,Tryz.ntmps178
 go_wp2
 go_ret
 exact ⟨rfl,rfl⟩

theorem shr_zero {xs:List Nat} (ox:Ok xs) {n k l:Nat} (hl:xs.length = n) (hk:k / 32 = l) (h:n ≤ l):val xs / 2 ^ k = 0:=by
 apply Nat.div_eq_of_lt
 have b:=val_lt ox
 have e:=sh_total (v:=1) hk (rfl:k % 32 = k % 32)
 rw [Nat.one_mul,Nat.one_mul] at e
 have h1:4294967296 ^ xs.length ≤ 4294967296 ^ l:=pow_mono (by omega)
 have h2:4294967296 ^ l ≤ 2 ^ (k % 32) * 4294967296 ^ l:=Nat.le_mul_of_pos_left _ (Nat.pow_pos (by decide))
 omega

theorem shr_anyF (a:Option Addr) (n c:Nat) (xs:List Nat) (w:World) (k:Nat) (h:Sl w a n c xs) (ox:Ok xs) (hn:n ≤ 2048) (hk:k ≤ 65536) :
  Calls Tryz.prog 178 #[.slice a n c,.int .i64 (k:Nat)] w fun e w' => NewRepF w w' (val xs / 2 ^ k) e:=by
 by_cases h0:n ≤ k / 32
 ·refine (shr_out a n c k (k / 32) (k % 32) w hk (by omega) (by omega) (by omega) (by omega) (by omega)).mono ?_
  rintro e w' ⟨rfl,rfl⟩
  refine ⟨none,0,[],rfl,sl_nil _,⟨Ok.nil,.inl rfl,?_⟩,newAt_nil _,Below.refl _ _,Fz.nil _ _⟩
  rw [shr_zero ox h.len rfl h0]; rfl
 ·have hx:xs ≠ []:=by intro e; have:=h.len; rw [e] at this; simp at this; omega
  rcases h.cells with e | ⟨b,off,rfl,hc⟩
  ·exact absurd e hx
  ·exact shr_some b off n c xs w k (k / 32) (k % 32) h hc ox (by omega) (by omega) (by omega) hk (by omega) hn

theorem shr_any (a:Option Addr) (n c:Nat) (xs:List Nat) (w:World) (k:Nat) (h:Sl w a n c xs) (ox:Ok xs) (hn:n ≤ 2048) (hk:k ≤ 65536) :
  Calls Tryz.prog 178 #[.slice a n c,.int .i64 (k:Nat)] w fun e w' => NewRep w w' (val xs / 2 ^ k) e :=
 (shr_anyF a n c xs w k h ox hn hk).mono fun _ _ h => h.rep

set_option maxHeartbeats 800000 in
theorem nshr_any (a:Option Addr) (n c:Nat) (xs:List Nat) (w:World) (k:Int) (h:Sl w a n c xs) (ox:Ok xs) :
  Calls Tryz.prog 145 #[.slice a n c,.int .i64 k] w fun e w' => Res2 w w' (shrL xs k) e:=by
 have KC:=check_any a n c xs w k h
 by_cases hc:chk xs k = 0
 ·obtain ⟨m1,k0,k1⟩:=chk_ok hc
  rw [hc] at KC
  have KC':=Hd KC
  obtain ⟨k,rfl⟩:=Int.eq_ofNat_of_zero_le k0
  have HC:=Hd (show shrL xs k = (limbs (val xs / 2 ^ k),0) from by unfold shrL; rw [m1]; simp; omega)
  have KS:=Hd (shr_any a n c xs w k h ox (by have:=h.len; have:=MayL.len m1; omega) (by omega))
  clear KC hc m1 h ox
  go_enter Tryz.func145,Tryz.ntmps145
  go_wp2_with fail
  refine (Uh KC').mono ?_
  rintro e w' ⟨rfl,hw⟩
  obtain rfl:=hw.symm
  go_wp2_with fail
  refine (Uh KS).mono ?_
  rintro e w1 ⟨a',m,zs,rfl,hs,hr,ha,hb⟩
  have HX:=Hd (And.intro hs (And.intro hr (And.intro ha hb)))
  clear hs hr ha hb KS
  go_wp2
  go_ret2
  rw [Uh HC,← (Uh HX).2.1.eq]
  exact ⟨a',m,m,rfl,(Uh HX).1,(Uh HX).2.2.1,(Uh HX).2.2.2⟩
 ·have hb:(chk xs k != 0) = true:=by rw [bne_iff_ne]; exact hc
  have HC:=Hd (shrL_bad hc)
  have KC':=Hd KC
  generalize chk xs k = cc at *
  clear KC hc h ox
  go_enter Tryz.func145,Tryz.ntmps145
  go_wp2_with fail
  refine (Uh KC').mono ?_
  rintro e w' ⟨rfl,hw⟩
  obtain rfl:=hw.symm
  go_wp2
  go_ret2
  rw [Uh HC]
  exact ⟨none,0,0,rfl,sl_nil _,newAt_nil _,Below.refl _ _⟩

structure SrR (wr w:World) (xs:List Nat) (l s:Nat) (v:Value) (j:Nat):Prop where
 own:wr.ownsRow w.heap.size 84 1 v j (vals (lst (shF xs l s) j))
 bel:Below w.heap.size w wr

theorem SrR.step {wr w w1:World} {xs:List Nat} {l s:Nat} {v v':Value} {j:Nat} {o:Obj} (h:SrR wr w xs l s v j)
  (hown:w1.ownsRow w.heap.size 84 1 v' (j + 1) (vals (lst (shF xs l s) j) ++ [.int .u32 (srd (xs.getD (l + j) 0) (xs.getD (l + j + 1) 0) s:Nat)])) (hg:(wr.alloc o).grownBy w1 v.ownBlock):SrR w1 w xs l s v' (j + 1):=by
 have hs:=h.bel.size
 refine ⟨?_,Below.grown (h.bel.alloc (by omega) o) hg (by simp; omega) (fun k hk => (own_ge h.own k hk).1)⟩
 have e:vals (lst (shF xs l s) j) ++ [.int .u32 (srd (xs.getD (l + j) 0) (xs.getD (l + j + 1) 0) s:Nat)] = vals (lst (shF xs l s) (j + 1)):=by
  simp [vals,lst,List.range_succ,shF]
 rw [← e]; exact hown
end Go.Proofs.YtpbcnkcnjnefiaaGreatDoor
