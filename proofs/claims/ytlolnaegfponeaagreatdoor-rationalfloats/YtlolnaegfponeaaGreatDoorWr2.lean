/- Shr -/
import Derived.Test.YtlolnaegfponeaaGreatDoorShl
import Derived.Test.YtlolnaegfponeaaGreatDoorAdd
import Derived.Test.YtlolnaegfponeaaGreatDoorMul
namespace Go.Proofs.YtlolnaegfponeaaGreatDoor
open Go.RowKit Go.Deep
set_option linter.unusedVariables false
theorem val_drop {xs:List Nat} (ox:Ok xs) (i:Nat):val (xs.drop i) = val xs / 4294967296 ^ i:=by
 by_cases h:i ≤ xs.length
 ·have e:=val_split xs i h
  have b:=val_lt (ox.take i)
  rw [List.length_take,Nat.min_eq_left h] at b
  rw [e,Nat.add_mul_div_left _ _ (pow_pos i),Nat.div_eq_of_lt b,Nat.zero_add]
 ·rw [List.drop_eq_nil_of_le (by omega)]
  have b:=val_lt ox
  have:4294967296 ^ xs.length ≤ 4294967296 ^ i:=pow_mono (by omega)
  rw [Nat.div_eq_of_lt (by omega)]
  rfl

theorem val_drop_step (xs:List Nat) (i:Nat):val (xs.drop i) = xs.getD i 0 + 4294967296 * val (xs.drop (i + 1)):=by
 by_cases h:i < xs.length
 ·rw [drop_cons h]; rfl
 ·rw [List.drop_eq_nil_of_le (by omega),List.drop_eq_nil_of_le (by omega),getD_ge (by omega)]; rfl

theorem valF_digits (v:Nat):∀ (m:Nat),valF (fun i => v / 4294967296 ^ i % 4294967296) m = v % 4294967296 ^ m
 | 0 => by simp [valF,Nat.mod_one]
 | m + 1 => by
  simp only [valF]
  rw [valF_digits v m,Nat.pow_succ,Nat.mod_mul]

def dv (lo hi:Nat):Nat:=lo + 4294967296 * hi
def srd (lo hi s:Nat):Nat:=dv lo hi / 2 ^ s % 4294967296
theorem srd_lt (lo hi s:Nat):srd lo hi s < 4294967296:=by unfold srd; exact Nat.mod_lt _ (by decide)
theorem dv_int {lo hi:Nat} (h1:lo < 4294967296) (h2:hi < 4294967296):bits .or .u64 ((hi:Int) * 4294967296) (lo:Int) = ((dv lo hi:Nat):Int):=or_halves hi lo h2 h1
theorem dv_int2 {lo hi:Nat} (h1:lo < 4294967296) (h2:hi < 4294967296):bits .or .u64 (lo:Int) ((hi:Int) * 4294967296) = ((dv lo hi:Nat):Int):=by
 rw [← dv_int h1 h2]
 simp only [bits,BitVec.or_comm]
theorem srd_int (lo hi s:Nat):((dv lo hi:Nat):Int) / 2 ^ s % 4294967296 = ((srd lo hi s:Nat):Int):=by
 unfold srd
 rw [Int.natCast_emod,Int.natCast_ediv,Int.natCast_pow]
 rfl
theorem dv_lt {lo hi:Nat} (h1:lo < 4294967296) (h2:hi < 4294967296):dv lo hi < 18446744073709551616:=by unfold dv; omega

def shF (xs:List Nat) (l s i:Nat):Nat:=srd (xs.getD (l + i) 0) (xs.getD (l + i + 1) 0) s

theorem shF_digit {xs:List Nat} (ox:Ok xs) {l s:Nat} (hs:s < 32) (i:Nat):shF xs l s i = val xs / (4294967296 ^ l * 2 ^ s) / 4294967296 ^ i % 4294967296:=by
 have e1:=val_drop_step xs (l + i)
 have e2:=val_drop_step xs (l + i + 1)
 have e3:=val_drop ox (l + i)
 have hp:=pow_split hs
 have hpos:=(pow_s hs).1
 rw [Nat.div_div_eq_div_mul,show 4294967296 ^ l * 2 ^ s * 4294967296 ^ i = 4294967296 ^ (l + i) * 2 ^ s from by rw [Nat.pow_add,Nat.mul_assoc,Nat.mul_comm (2 ^ s),← Nat.mul_assoc],← Nat.div_div_eq_div_mul,← e3,e1,e2]
 unfold shF srd dv
 generalize val (xs.drop (l + i + 1 + 1)) = r
 generalize xs.getD (l + i) 0 = a
 generalize xs.getD (l + i + 1) 0 = b
 have e4:a + 4294967296 * (b + 4294967296 * r) = (a + 4294967296 * b) + 2 ^ s * (4294967296 * (2 ^ (32 - s) * r)):=by
  have:2 ^ s * (4294967296 * (2 ^ (32 - s) * r)) = 4294967296 * (4294967296 * r):=by
   rw [Nat.mul_left_comm,← Nat.mul_assoc (2 ^ s),hp]
  rw [this]; omega
 rw [e4,Nat.add_mul_div_left _ _ (by omega),Nat.add_mul_mod_self_left]

theorem shr_val {xs:List Nat} (ox:Ok xs) {n k l s:Nat} (hl:xs.length = n) (hln:l ≤ n) (hk:k / 32 = l) (hs:k % 32 = s):valF (shF xs l s) (n - l) = val xs / 2 ^ k:=by
 have hs32:s < 32:=by omega
 rw [valF_congr (fun i _ => shF_digit ox hs32 i),valF_digits]
 have e:=sh_total (v:=1) hk hs
 rw [Nat.one_mul,Nat.one_mul,Nat.mul_comm] at e
 rw [e]
 apply Nat.mod_eq_of_lt
 have b:=val_lt ox
 rw [hl] at b
 rw [← e,← Nat.div_div_eq_div_mul]
 have h1:val xs / 4294967296 ^ l < 4294967296 ^ (n - l):=by
  rw [Nat.div_lt_iff_lt_mul (pow_pos l),← Nat.pow_add,show n - l + l = n from by omega]
  exact b
 exact Nat.lt_of_le_of_lt (Nat.div_le_self _ _) h1

theorem make_sub (n l:Nat) (hle:l ≤ n) (h:n ≤ 70368744177600) (w:World):(Instr.makeSlice 22 (.int .i64 ((n:Int) - (l:Int))) (.int .i64 ((n:Int) - (l:Int)))).run Tryz.prog w = .ok (.slice (some ⟨w.heap.size,0,none⟩) (n - l) (n - l)) (w.alloc (.cells (madeCells #[.int .u32 0] (n - l)) 43)):=by
 have:=make_len (n - l) (by omega) w
 rw [show ((n - l:Nat):Int) = (n:Int) - (l:Int) from by omega] at this
 exact this

theorem sr_step {wr w:World} {m j l s:Nat} {xs:List Nat} (hf:Fn wr w.heap.size 0 m (fun i => if i < j then shF xs l s i else 0)) (hlt:j < m) (hb:Below w.heap.size w wr) :
  Fn (wr.setCell ⟨w.heap.size,j,none⟩ (.int .u32 (srd (xs.getD (l + j) 0) (xs.getD (l + j + 1) 0) s:Nat))) w.heap.size 0 m (fun i => if i < j + 1 then shF xs l s i else 0) ∧ Below w.heap.size w (wr.setCell ⟨w.heap.size,j,none⟩ (.int .u32 (srd (xs.getD (l + j) 0) (xs.getD (l + j + 1) 0) s:Nat))):=by
 refine ⟨?_,hb.setCell (Nat.le_refl _) _⟩
 have h:=hf.set j (srd (xs.getD (l + j) 0) (xs.getD (l + j + 1) 0) s) hlt
 simp only [Nat.zero_add] at h
 refine h.congr ?_
 intro i hi
 by_cases e:i = j
 ·simp [e,shF]
 ·by_cases e2:i < j
  ·simp [e,e2,show i < j + 1 from by omega]
  ·simp [e,e2,show ¬ i < j + 1 from by omega]

theorem fn_drewN {w:World} {b off n:Nat} {f:Nat → Nat} (h:Fn w b off n f) (k:Nat):Fn (w.drewN k) b off n f:=h

def Fz (w:World) (a:Option Addr) (m:Nat):Prop:=∀ x,a = some x → ∀ i,i < m → w.frozen? ⟨x.block,x.off + i,none⟩ = false
theorem Fz.nil (w:World) (m:Nat):Fz w none m:=fun x hx => by cases hx
def NewRepF (w w':World) (v:Nat) (e:Ending):Prop :=
 ∃ a' m ys,e = .returned (.slice a' m m) ∧ Sl w' a' m m ys ∧ Rep v ys ∧ NewAt w.heap.size a' ∧ Below w.heap.size w w' ∧ Fz w' a' m
theorem NewRepF.rep {w w':World} {v:Nat} {e:Ending} (h:NewRepF w w' v e):NewRep w w' v e:=by
 obtain ⟨a',m,ys,h1,h2,h3,h4,h5,_⟩:=h
 exact ⟨a',m,ys,h1,h2,h3,h4,h5⟩
theorem rep_len_leS {v j:Nat} {zs:List Nat} (h:Rep v zs) (hv:v < 4294967296 ^ j):zs.length ≤ j:=by
 rcases Nat.lt_or_ge j zs.length with k | k
 ·exfalso
  have hz:zs ≠ []:=by intro e; rw [e] at k; simp at k
  have h1:=val_ge_of_norm h.norm hz
  rw [h.val] at h1
  have h2:4294967296 ^ j ≤ 4294967296 ^ (zs.length - 1):=pow_mono (by omega)
  omega
 ·exact k

set_option maxHeartbeats 2000000 in
theorem shr_some (b off n c:Nat) (xs:List Nat) (w:World) (k l s:Nat) (hsl:Sl w (some ⟨b,off,none⟩) n c xs) (hc:Cells w b off xs) (ox:Ok xs) (hkl:(k:Int) / 32 = (l:Int)) (hks:(k:Int) % 32 = (s:Int)) (hs32:s < 32) (hk0:k ≤ 65536) (hln:l < n) (hn2:n ≤ 2048) :
  Calls Tryz.prog 187 #[.slice (some ⟨b,off,none⟩) n c,.int .i64 (k:Nat)] w fun e w' => NewRepF w w' (val xs / 2 ^ k) e:=by
 have hmk:=fun w => make_sub n l (by omega) (by omega) w
 have hge:¬ (n:Int) ≤ (l:Int):=by omega
 have HL:=Hd hsl.len
 have HT:=Hd (shr_val ox hsl.len (by omega) (show k / 32 = l by omega) (show k % 32 = s by omega))
 go_enter Tryz.func187,Tryz.ntmps187
 go_wp2_with fail
 try rw [hks]
 clear hkl hks hk0
 have hnl:((n - l:Nat):Int) = (n:Int) - (l:Int):=by omega
 go_loopw [25] (fun i wr => ∃ j:Nat,j ≤ n - l ∧ i = .int .i64 j ∧ Fn wr w.heap.size 0 (n - l) (fun i => if i < j then shF xs l s i else 0) ∧ Below w.heap.size w wr) (fun i _ => n - l - (intOf i).toNat)
 case atStart => exact ⟨0,Nat.zero_le _,rfl,by simpa using Fn.made w (n - l) _,bAl⟩
 case round =>
  obtain ⟨j,hj,rfl,hf,hbel⟩:=hrel
  by_cases hlt:j < n - l
  ·have hlt':(j:Int) < (n:Int) - (l:Int):=by omega
   have hb1:(l:Int) + (j:Int) < (n:Int):=by omega
   have g0:=hc (l + j) (by rw [Uh HL]; omega)
   have g1:wr.cell? ⟨b,off + (l + j),none⟩ = _:=(ck hbel g0)
   have c1:=(hf j hlt).1
   have c2:=(hf j hlt).2
   simp only [Nat.zero_add] at c1 c2
   generalize ((if j < j then shF xs l s j else 0:Nat):Int) = old at c1
   have KL:=fun q => limbAt_any (some ⟨b,off,none⟩) n c xs ((l:Int) + (j:Int) + 1) (wr.drewN q) ((hsl.below hbel).drewN q) (by omega)
   rw [show ((l:Int) + (j:Int) + 1).toNat = l + j + 1 from by omega] at KL
   have KL':=Hd KL
   have bx:=ox.getD (l + j)
   have bY:=ox.getD (l + j + 1)
   have e0:=dv_int (lo:=xs.getD (l + j) 0) (hi:=xs.getD (l + j + 1) 0) bx bY
   have e1:=srd_int (xs.getD (l + j) 0) (xs.getD (l + j + 1) 0) s
   have b1:=dv_lt (lo:=xs.getD (l + j) 0) (hi:=xs.getD (l + j + 1) 0) bx bY
   have HS:=Hd (sr_step hf hlt hbel)
   generalize xs.getD (l + j) 0 = x at *
   generalize xs.getD (l + j + 1) 0 = y at *
   clear hf hbel g0 KL
   go_wp2_with fail
   go_quiet ((go_at_call 155; exact Calls.quiet_of_same (Uh KL' _)))
   go_wp2
   exact ⟨⟨j + 1,by omega,by go_num,fn_drewN (Uh HS).1 _,bel_drewN (Uh HS).2 _⟩,by simp [intOf]; omega⟩
  ·have hjn:j = n - l:=by omega
   have hf2:Fn wr w.heap.size 0 (n - l) (shF xs l s):=hf.congr (fun i hi => by rw [hjn]; simp [hi])
   have KT:=trim_any _ (n - l) (n - l) _ wr (hf2.sl (Nat.le_refl _) (by unfold maxLen; omega)) (lst_ok (fun i _ => srd_lt _ _ _))
   rw [lst_val,Uh HT] at KT
   have KT':=Hd KT
   have HB:=Hd hbel
   have HF2:=Hd hf2
   have HVL:=Hd (show val xs / 2 ^ k < 4294967296 ^ (n - l) from by rw [← Uh HT]; exact valF_lt (fun i _ => srd_lt _ _ _))
   have hlt':¬ (j:Int) < (n:Int) - (l:Int):=by omega
   clear hf hf2 KT hbel hjn
   go_wp2_with fail
   refine (Uh KT').mono ?_
   rintro e w3 ⟨a',m,zs,rfl,hs,hr,ha,rfl⟩
   go_wp2
   go_ret
   have hml:m ≤ n - l:=by rw [← hs.len]; exact rep_len_leS hr (Uh HVL)
   refine ⟨a',m,zs,rfl,hs,hr,?_,Uh HB,?_⟩
   ·intro x hx
    rcases ha with rfl | rfl
    ·cases hx; exact Nat.le_refl _
    ·cases hx
   ·intro x hx i hi
    rcases ha with rfl | rfl
    ·cases hx; exact (Uh HF2 i (by omega)).2
    ·cases hx

set_option maxHeartbeats 400000 in
theorem shr_out (a:Option Addr) (n c k l s:Nat) (w:World) (hk0:k ≤ 65536) (hl0:l ≤ 2048) (hs0:s < 32) (hkl:(k:Int) / 32 = (l:Int)) (hks:(k:Int) % 32 = (s:Int)) (hge:(n:Int) ≤ (l:Int)) :
  Calls Tryz.prog 187 #[.slice a n c,.int .i64 (k:Nat)] w fun e w' => e = .returned (.slice none 0 0) ∧ w' = w:=by
 go_enter Tryz.func187,Tryz.ntmps187
 go_wp2
 go_ret
 exact ⟨rfl,rfl⟩

theorem shr_zero {xs:List Nat} (ox:Ok xs) {n k l:Nat} (hl:xs.length = n) (hk:k / 32 = l) (h:n ≤ l):val xs / 2 ^ k = 0:=by
 apply Nat.div_eq_of_lt
 have b:=val_lt ox
 have e:=sh_total (v:=1) hk (rfl:k % 32 = k % 32)
 rw [Nat.one_mul,Nat.one_mul] at e
 have h1:4294967296 ^ xs.length ≤ 4294967296 ^ l:=pow_mono (by omega)
 have h2:4294967296 ^ l ≤ 2 ^ (k % 32) * 4294967296 ^ l:=Nat.le_mul_of_pos_left _ (Nat.pow_pos (by decide))
 omega

theorem shr_anyF (a:Option Addr) (n c:Nat) (xs:List Nat) (w:World) (k:Nat) (h:Sl w a n c xs) (ox:Ok xs) (hn:n ≤ 2048) (hk:k ≤ 65536) :
  Calls Tryz.prog 187 #[.slice a n c,.int .i64 (k:Nat)] w fun e w' => NewRepF w w' (val xs / 2 ^ k) e:=by
 by_cases h0:n ≤ k / 32
 ·refine (shr_out a n c k (k / 32) (k % 32) w hk (by omega) (by omega) (by omega) (by omega) (by omega)).mono ?_
  rintro e w' ⟨rfl,rfl⟩
  refine ⟨none,0,[],rfl,sl_nil _,⟨Ok.nil,.inl rfl,?_⟩,newAt_nil _,Below.refl _ _,Fz.nil _ _⟩
  rw [shr_zero ox h.len rfl h0]; rfl
 ·have hx:xs ≠ []:=by intro e; have:=h.len; rw [e] at this; simp at this; omega
  rcases h.cells with e | ⟨b,off,rfl,hc⟩
  ·exact absurd e hx
  ·exact shr_some b off n c xs w k (k / 32) (k % 32) h hc ox (by omega) (by omega) (by omega) hk (by omega) hn

theorem shr_any (a:Option Addr) (n c:Nat) (xs:List Nat) (w:World) (k:Nat) (h:Sl w a n c xs) (ox:Ok xs) (hn:n ≤ 2048) (hk:k ≤ 65536) :
  Calls Tryz.prog 187 #[.slice a n c,.int .i64 (k:Nat)] w fun e w' => NewRep w w' (val xs / 2 ^ k) e :=
 (shr_anyF a n c xs w k h ox hn hk).mono fun _ _ h => h.rep

set_option maxHeartbeats 800000 in
theorem nshr_any (a:Option Addr) (n c:Nat) (xs:List Nat) (w:World) (k:Int) (h:Sl w a n c xs) (ox:Ok xs) :
  Calls Tryz.prog 140 #[.slice a n c,.int .i64 k] w fun e w' => Res2 w w' (shrL xs k) e:=by
 have KC:=check_any a n c xs w k h
 by_cases hc:chk xs k = 0
 ·obtain ⟨m1,k0,k1⟩:=chk_ok hc
  rw [hc] at KC
  have KC':=Hd KC
  obtain ⟨k,rfl⟩:=Int.eq_ofNat_of_zero_le k0
  have HC:=Hd (show shrL xs k = (limbs (val xs / 2 ^ k),0) from by unfold shrL; rw [m1]; simp; omega)
  have KS:=Hd (shr_any a n c xs w k h ox (by have:=h.len; have:=MayL.len m1; omega) (by omega))
  clear KC hc m1 h ox
  go_enter Tryz.func140,Tryz.ntmps140
  go_wp2_with fail
  refine (Uh KC').mono ?_
  rintro e w' ⟨rfl,hw⟩
  obtain rfl:=hw.symm
  go_wp2_with fail
  refine (Uh KS).mono ?_
  rintro e w1 ⟨a',m,zs,rfl,hs,hr,ha,hb⟩
  have HX:=Hd (And.intro hs (And.intro hr (And.intro ha hb)))
  clear hs hr ha hb KS
  go_wp2
  go_ret2
  rw [Uh HC,← (Uh HX).2.1.eq]
  exact ⟨a',m,m,rfl,(Uh HX).1,(Uh HX).2.2.1,(Uh HX).2.2.2⟩
 ·have hb:(chk xs k != 0) = true:=by rw [bne_iff_ne]; exact hc
  have HC:=Hd (shrL_bad hc)
  have KC':=Hd KC
  generalize chk xs k = cc at *
  clear KC hc h ox
  go_enter Tryz.func140,Tryz.ntmps140
  go_wp2_with fail
  refine (Uh KC').mono ?_
  rintro e w' ⟨rfl,hw⟩
  obtain rfl:=hw.symm
  go_wp2
  go_ret2
  rw [Uh HC]
  exact ⟨none,0,0,rfl,sl_nil _,newAt_nil _,Below.refl _ _⟩

structure SrR (wr w:World) (xs:List Nat) (l s:Nat) (v:Value) (j:Nat):Prop where
 own:wr.ownsRow w.heap.size 43 1 v j (vals (lst (shF xs l s) j))
 bel:Below w.heap.size w wr

theorem SrR.step {wr w w1:World} {xs:List Nat} {l s:Nat} {v v':Value} {j:Nat} {o:Obj} (h:SrR wr w xs l s v j)
  (hown:w1.ownsRow w.heap.size 43 1 v' (j + 1) (vals (lst (shF xs l s) j) ++ [.int .u32 (srd (xs.getD (l + j) 0) (xs.getD (l + j + 1) 0) s:Nat)])) (hg:(wr.alloc o).grownBy w1 v.ownBlock):SrR w1 w xs l s v' (j + 1):=by
 have hs:=h.bel.size
 refine ⟨?_,Below.grown (h.bel.alloc (by omega) o) hg (by simp; omega) (fun k hk => (own_ge h.own k hk).1)⟩
 have e:vals (lst (shF xs l s) j) ++ [.int .u32 (srd (xs.getD (l + j) 0) (xs.getD (l + j + 1) 0) s:Nat)] = vals (lst (shF xs l s) (j + 1)):=by
  simp [vals,lst,List.range_succ,shF]
 rw [← e]; exact hown
def bitN (v i:Nat):Nat:=v / 2 ^ i % 2
theorem bitN_lt (v i:Nat):bitN v i < 2:=Nat.mod_lt _ (by decide)

theorem bit_limb {xs:List Nat} (ox:Ok xs) {i l s:Nat} (hl:i / 32 = l) (hs:i % 32 = s):bitN (val xs) i = xs.getD l 0 / 2 ^ s % 2:=by
 have hi:i = 32 * l + s:=by omega
 have hs32:s < 32:=by omega
 have hp:=pow_split hs32
 have hpos:=(pow_s hs32).1
 have e3:=val_drop ox l
 have e1:=val_drop_step xs l
 unfold bitN
 rw [hi,Nat.pow_add,← pow_limb,← Nat.div_div_eq_div_mul,← e3,e1]
 generalize xs.getD l 0 = x
 generalize val (xs.drop (l + 1)) = r
 have e4:x + 4294967296 * r = x + 2 ^ s * (2 * (2 ^ (31 - s) * r)):=by
  have:2 ^ s * (2 * (2 ^ (31 - s) * r)) = 4294967296 * r:=by
   rw [← hp,show 32 - s = 31 - s + 1 from by omega,Nat.pow_succ,Nat.mul_comm (2 ^ (31 - s)) 2,← Nat.mul_assoc 2,Nat.mul_assoc (2 ^ s)]
  omega
 rw [e4,Nat.add_mul_div_left _ _ (by omega),Nat.add_mul_mod_self_left]

theorem and_one (y:Nat) (hy:y < 4294967296):bits .and .u32 (y:Int) 1 = ((y % 2:Nat):Int):=by
 have:=u32_and_nat y 1 hy (by decide)
 rw [Nat.and_one_is_mod] at this
 exact this

theorem shr_lt {x s:Nat} (hx:x < 4294967296):x / 2 ^ s < 4294967296:=Nat.lt_of_le_of_lt (Nat.div_le_self _ _) hx
section
variable {P:Program} {w:World}
theorem wpList_append_nilR {ops:Array Oper} {rest:List Oper} {o:Oper} {a:Act} {Q:Exit → Act → World → Prop} (hgd:o.guard = none) (s x:Operand) (t:TypeId)
  (ho:o.op = .call { callee:=.builtin .append,args:=#[s,x],argTypes:=#[t,t] })
  (base:Nat) (e:TypeId) (i:TypeInfo) (z:Value) (bytes:Nat) (ht:P.underlying t = some (.slice e)) (hi:P.info? e = some i) (hz:i.zero = some z)
  (hsize:i.size = 1) (hby:i.bytes = bytes) (hzs:z.cells.size = 1)
  (hs:a.eval s = .slice none 0 0)
  (ao:Option Addr) (m c:Nat) (news:List Value) (hx:a.eval x = .slice ao m c) (hl:news.length = m) (hnone:ao = none → m = 0 ∧ c = 0)
  (hnews:∀ ad,ao = some ad → ∀ j u,news[j]? = some u → w.cell? (ad.add j) = some u) (h1:∀ u ∈ news,u.oneCell' = true)
  (h63:m ≤ maxLen) (hbytes:m * bytes ≤ 140737488355328) (hbase:base ≤ w.heap.size)
  (h:∀ v w',w'.ownsRow base e 1 v m news → w.grownBy w' none → wpList P ops Q rest (a.put o.dst v) w'):wpList P ops Q (o :: rest) a w:=by
 cases ao with
 | none =>
  obtain ⟨rfl,rfl⟩:=hnone rfl
  have hn:news = []:=List.eq_nil_of_length_eq_zero hl
  subst hn
  refine wpList_plain hgd fun K hK => ?_
  have hrun:=run_append_owned_none (P:=P) (w:=w) base t o.type e i 1 ht hi (.slice none 0 0) 0 [] (World.ownsRow_nil _ _ _ _)
  unfold Oper.wp
  simp [execOp,ho,resolve,invoke,builtin,hs,hx,hrun,Result.andThen]
  exact hK _ _ (h _ w (World.ownsRow_nil _ _ _ _) (World.grownBy.refl _ _))
 | some ad =>
  refine wpList_append_own w hgd s x t ho base e i z 1 bytes ht hi hz hsize hby hzs (by decide) _ 0 [] hs (World.ownsRow_nil _ _ _ _) ad m c news hx (by simpa using hl) (hnews ad rfl) h1 (by simpa using h63) (by simpa using hbytes) hbase ?_
  intro v' w' k1 k2 _
  simp only [Nat.zero_add,List.nil_append] at k1
  exact h v' w' k1 k2
end

theorem Sl.news {w:World} {a:Option Addr} {n c:Nat} {xs:List Nat} (h:Sl w a n c xs):∀ ad,a = some ad → ∀ j u,(vals xs)[j]? = some u → w.cell? (ad.add j) = some u:=by
 intro ad had j u hu
 have hj:j < xs.length:=by
  have:=(List.getElem?_eq_some_iff.1 hu).1
  simpa [vals] using this
 have hne:xs ≠ []:=by intro e; rw [e] at hj; simp at hj
 obtain ⟨b,off,e,hc⟩:=h.cells.resolve_left hne
 rw [e] at had
 cases had
 have e2:(⟨b,off,none⟩:Addr).add j = ⟨b,off + j,none⟩:=by unfold Addr.add; split <;> simp_all
 rw [e2,hc j hj,← hu]
 simp [vals,List.getD,hj]

set_option maxHeartbeats 2000000 in
theorem wcopied_any (a:Option Addr) (n c:Nat) (xs:List Nat) (w:World) (h:Sl w a n c xs) (hnil:a = none → c = 0) (hn:n ≤ 1000000000) :
  Calls Tryz.prog 106 #[.slice a n c] w fun e w' => ∃ a' c',e = .returned (.slice a' n c') ∧ Ow w' w.heap.size a' n c' xs ∧ Below w.heap.size w w':=by
 obtain ⟨i80,hi80,hz80,hs80,hb80⟩:=info_parts Tryz.info_u32
 have I80:=Hd (And.intro hi80 (And.intro hz80 (And.intro hs80 hb80)))
 have HS:=Hd h
 have HNil:=Hd (show a = none → n = 0 ∧ c = 0 from fun e => ⟨by have:=hnil e; have:=h.le; omega,hnil e⟩)
 clear hi80 hz80 hs80 hb80 h hnil
 go_enter Tryz.func106,Tryz.ntmps106
 go_wp2_with (at_builtin; refine wpList_append_nilR rfl _ _ 22 rfl w.heap.size 43 i80 (.int .u32 0) 4 Tryz.underlying22 (Uh I80).1 (Uh I80).2.1 (Uh I80).2.2.1 (Uh I80).2.2.2 rfl rfl a n c (vals xs) rfl ?hl (Uh HNil) ?hnews ?hone ?h63 ?hby (Nat.le_refl _) ?_)
 case hl => simp [vals,(Uh HS).len]
 case hnews => exact (Uh HS).news
 case hone => exact vals_one
 case h63 => unfold maxLen; omega
 case hby => omega
 intro v1 w1 hown hg
 have HB1:=Hd (show Below w.heap.size w w1 from Below.grown (Below.refl _ _) hg (Nat.le_refl _) (fun k hk => by cases hk))
 obtain ⟨a',c',e,_,_⟩:=own_sl hown
 subst e
 have HO:=Hd (show Ow w1 w.heap.size a' n c' xs from hown)
 clear hown hg
 go_wp2_with fail
 go_ret
 exact ⟨a',c',rfl,Uh HO,Uh HB1⟩

theorem wsign_any (n:Int) (w:World) (hl:-9223372036854775808 ≤ n) (hh:n ≤ 9223372036854775807) :
  Calls Tryz.prog 171 #[.int .i64 n] w fun e w' => e = .returned (.int .i64 n.sign) ∧ w' = w:=by
 rcases Int.lt_trichotomy n 0 with h | h | h
 ·rw [Int.sign_eq_neg_one_of_neg h]
  go_enter Tryz.func171,Tryz.ntmps171
  go_wp2
  go_ret
  exact ⟨rfl,rfl⟩
 ·subst h
  go_enter Tryz.func171,Tryz.ntmps171
  go_wp2
  go_ret
  exact ⟨rfl,rfl⟩
 ·rw [Int.sign_eq_one_of_pos h]
  have h2:¬ n < 0:=by omega
  go_enter Tryz.func171,Tryz.ntmps171
  go_wp2
  go_ret
  exact ⟨rfl,rfl⟩

set_option maxHeartbeats 1600000 in
theorem wcmp_some (b1 o1 b2 o2 : Nat) (n c1 c2 : Nat) (xs ys : List Nat) (w : World) (hn : n ≤ maxLen) (hx : xs.length = n) (hy : ys.length = n) (ox : Ok xs) (oy : Ok ys)
   (h1 : Cells w b1 o1 xs) (h2 : Cells w b2 o2 ys) :
    Calls Tryz.prog 122 #[.slice (some ⟨b1, o1, none⟩) n c1, .slice (some ⟨b2, o2, none⟩) n c2] w fun e w' => e = .returned (.int .i64 (cmpN (val xs) (val ys))) ∧ ∃ k, w' = w.drewN k := by
  unfold maxLen at hn
  have hne : ((n:Int) != (n:Int)) = false := by simp
  go_enter Tryz.func122, Tryz.ntmps122
  go_wp2
  go_loopw [5] (fun i wr => ∃ k : Nat, k ≤ n ∧ i = .int .i64 ((k : Int) - 1) ∧ (∀ j, k ≤ j → xs.getD j 0 = ys.getD j 0) ∧ ∃ d, wr = w.drewN d) (fun i _ => (intOf i + 1).toNat)
  case atStart => exact ⟨n, Nat.le_refl _, rfl, fun j hj => by rw [getD_ge (by omega), getD_ge (by omega)], 0, rfl⟩
  case round =>
    obtain ⟨k, hk, rfl, ht, d, rfl⟩ := hrel
    by_cases hlt : 0 < k
    · have hlt' : (0:Int) ≤ (k:Int) - 1 := by omega
      have hlt2 : (k:Int) - 1 < (n:Int) := by omega
      have hk1 : ((k:Int) - 1).toNat = k - 1 := by omega
      have g1 := h1 (k - 1) (by omega)
      have g2 := h2 (k - 1) (by omega)
      by_cases he : xs.getD (k - 1) 0 = ys.getD (k - 1) 0
      · have HT : ∀ j, k - 1 ≤ j → xs.getD j 0 = ys.getD j 0 := fun j hj => by
          by_cases e : j = k - 1
          · rw [e]; exact he
          · exact ht j (by omega)
        have HT' := hide HT
        have hb : ¬ ((xs.getD (k - 1) 0 : Nat) : Int) < ((ys.getD (k - 1) 0 : Nat) : Int) := by omega
        have hb' : ¬ ((ys.getD (k - 1) 0 : Nat) : Int) < ((xs.getD (k - 1) 0 : Nat) : Int) := by omega
        generalize ((xs.getD (k - 1) 0 : Nat) : Int) = u at g1 hb hb'
        generalize ((ys.getD (k - 1) 0 : Nat) : Int) = v at g2 hb hb'
        clear he h1 h2 HT ht
        go_wp2_with fail
        go_quiet (fail)
        go_wp2_with fail
        go_quiet (fail)
        go_wp2
        exact ⟨⟨k - 1, by omega, by congr 1; omega, unhide HT', _, rfl⟩, by simp [intOf]; omega⟩
      · have hr : ((xs.getD (k - 1) 0 : Nat) : Int) < ((ys.getD (k - 1) 0 : Nat) : Int) ∧ cmpN (val xs) (val ys) = -1 ∨ ((ys.getD (k - 1) 0 : Nat) : Int) < ((xs.getD (k - 1) 0 : Nat) : Int) ∧ cmpN (val xs) (val ys) = 1 := by
          by_cases hh : xs.getD (k - 1) 0 < ys.getD (k - 1) 0
          · exact .inl ⟨by omega, cmpN_lt (val_lt_of (i := k - 1) (hx.trans hy.symm) ox oy (by omega) (fun j hj => ht j (by omega)) hh)⟩
          · exact .inr ⟨by omega, cmpN_gt (val_lt_of (i := k - 1) (hy.trans hx.symm) oy ox (by omega) (fun j hj => (ht j (by omega)).symm) (by omega))⟩
        generalize ((xs.getD (k - 1) 0 : Nat) : Int) = u at g1 hr
        generalize ((ys.getD (k - 1) 0 : Nat) : Int) = v at g2 hr
        clear he h1 h2 ht
        rcases hr with ⟨hr, hc⟩ | ⟨hr, hc⟩
        · have HC := hide hc
          clear hc
          go_wp2_with fail
          go_quiet (fail)
          go_wp2
          go_ret
          exact ⟨by rw [unhide HC]; rfl, _, drewN_add _ _ _⟩
        · have HC := hide hc
          have hr' : ¬ u < v := by omega
          clear hc
          go_wp2_with fail
          go_quiet (fail)
          go_wp2_with fail
          go_quiet (fail)
          go_wp2
          go_ret
          exact ⟨by rw [unhide HC]; rfl, _, drewN_add3 _ _ _ _⟩
    · have hk0 : ¬ (0:Int) ≤ (k:Int) - 1 := by omega
      have : xs = ys := ext_getD (hx.trans hy.symm) (fun i _ => ht i (by omega))
      have HE := hide this
      clear this h1 h2 ht
      go_wp2
      go_ret
      exact ⟨by rw [cmpN_eq (by rw [unhide HE])]; rfl, _, rfl⟩

set_option maxHeartbeats 400000 in
theorem wcmp_len (a1 a2:Option Addr) (n1 n2 c1 c2:Nat) (w:World) (hn:((n1:Int) != (n2:Int)) = true) (h1:n1 ≤ 1000000000) (h2:n2 ≤ 1000000000) (r:Int) (hr:((n1:Int) - n2).sign = r) :
  Calls Tryz.prog 122 #[.slice a1 n1 c1,.slice a2 n2 c2] w fun e w' => e = .returned (.int .i64 r) ∧ w' = w:=by
 have K:=wsign_any ((n1:Int) - n2) w (by omega) (by omega)
 rw [hr] at K
 have HK:=Hd K
 clear K hr
 go_enter Tryz.func122,Tryz.ntmps122
 go_wp2_with fail
 refine (Uh HK).mono ?_
 rintro e w' ⟨rfl,hw⟩
 obtain rfl:=hw.symm
 go_wp2_with fail
 go_ret
 exact ⟨rfl,rfl⟩

set_option maxHeartbeats 400000 in
theorem wcmp_nil (a1 a2:Option Addr) (c1 c2:Nat) (w:World) :
  Calls Tryz.prog 122 #[.slice a1 0 c1,.slice a2 0 c2] w fun e w' => e = .returned (.int .i64 0) ∧ w' = w:=by
 go_enter Tryz.func122,Tryz.ntmps122
 go_wp2
 go_loop [5] (fun i => i = .int .i64 (-1)) (fun i => (intOf i).toNat)
 case atStart => rfl
 case round =>
  subst hrel
  go_wp2
  go_ret
  exact ⟨rfl,rfl⟩

theorem wcmp_any (a1 a2:Option Addr) (n1 c1 n2 c2:Nat) (xs ys:List Nat) (w:World) (h1:Sl w a1 n1 c1 xs) (h2:Sl w a2 n2 c2 ys) (ox:Ok xs) (oy:Ok ys) (nx:Norm xs) (ny:Norm ys) (hn1:n1 ≤ 1000000000) (hn2:n2 ≤ 1000000000) :
  Calls Tryz.prog 122 #[.slice a1 n1 c1,.slice a2 n2 c2] w fun e w' => e = .returned (.int .i64 (cmpN (val xs) (val ys))) ∧ ∃ k,w' = w.drewN k:=by
 have l1:=h1.len
 have l2:=h2.len
 by_cases e:n1 = n2
 ·subst e
  by_cases z:n1 = 0
  ·subst z
   have e1:xs = []:=List.eq_nil_of_length_eq_zero l1
   have e2:ys = []:=List.eq_nil_of_length_eq_zero l2
   subst e1 e2
   refine (wcmp_nil a1 a2 c1 c2 w).mono ?_
   rintro e w' ⟨rfl,rfl⟩
   exact ⟨rfl,0,rfl⟩
  ·rcases h1.cells with e1 | ⟨b1,o1,rfl,k1⟩
   ·subst e1; simp at l1; omega
   ·rcases h2.cells with e2 | ⟨b2,o2,rfl,k2⟩
    ·subst e2; simp at l2; omega
    ·exact wcmp_some b1 o1 b2 o2 n1 c1 c2 xs ys w (Nat.le_trans h1.le h1.cap) l1 l2 ox oy k1 k2
 ·refine (wcmp_len a1 a2 n1 n2 c1 c2 w (by rw [bne_iff_ne]; omega) hn1 hn2 (cmpN (val xs) (val ys)) ?_).mono ?_
  ·rw [← cmp_len ox oy nx ny (by omega),l1,l2]
   by_cases h:(n1:Int) < (n2:Int)
   ·rw [if_pos h,Int.sign_eq_neg_one_of_neg (by omega)]
   ·rw [if_neg h,Int.sign_eq_one_of_pos (by omega)]
  ·rintro e w' ⟨rfl,rfl⟩
   exact ⟨rfl,0,rfl⟩

set_option maxHeartbeats 1000000 in
theorem wbit_in (b off n c:Nat) (x i l s:Nat) (w:World) (hn:n ≤ 1000000000) (hl:(i:Int) / 32 = (l:Int)) (hs:(i:Int) % 32 = (s:Int)) (hs32:s < 32) (hln:l < n) (hi:i ≤ 9223372036854775807) (hx:x < 4294967296) (hc:w.cell? ⟨b,off + l,none⟩ = some (.int .u32 (x:Nat))) :
  Calls Tryz.prog 166 #[.slice (some ⟨b,off,none⟩) n c,.int .i64 (i:Nat)] w fun e w' => e = .returned (.int .u32 ((x / 2 ^ s % 2:Nat):Int)) ∧ w' = w:=by
 have hl2:(i:Int).tdiv 32 = (l:Int):=by rw [Int.tdiv_eq_ediv_of_nonneg (by omega)]; exact hl
 have hs2:(i:Int).tmod 32 = (s:Int):=by rw [Int.tmod_eq_emod_of_nonneg (by omega)]; exact hs
 have t1:(l:Int) < (n:Int):=by omega
 have t2:¬ (n:Int) ≤ (l:Int):=by omega
 have hy:=shr_lt (s:=s) hx
 have e1:(x:Int) / 2 ^ s = ((x / 2 ^ s:Nat):Int):=by rw [Int.natCast_ediv,Int.natCast_pow]; rfl
 have e2:=and_one _ hy
 generalize x / 2 ^ s = y at *
 have hy2:y % 2 < 2:=Nat.mod_lt _ (by decide)
 generalize y % 2 = z at *
 go_enter Tryz.func166,Tryz.ntmps166
 go_wp2
 go_ret
 exact ⟨rfl,rfl⟩

set_option maxHeartbeats 1000000 in
theorem wbit_out (a:Option Addr) (n c i l:Nat) (w:World) (hl:(i:Int) / 32 = (l:Int)) (hi:i ≤ 9223372036854775807) (hln:n ≤ l) :
  Calls Tryz.prog 166 #[.slice a n c,.int .i64 (i:Nat)] w fun e w' => e = .returned (.int .u32 0) ∧ w' = w:=by
 have hl2:(i:Int).tdiv 32 = (l:Int):=by rw [Int.tdiv_eq_ediv_of_nonneg (by omega)]; exact hl
 have t2:(n:Int) ≤ (l:Int):=by omega
 go_enter Tryz.func166,Tryz.ntmps166
 go_wp2
 go_ret
 exact ⟨rfl,rfl⟩

theorem wbit_any (a:Option Addr) (n c:Nat) (xs:List Nat) (w:World) (i:Nat) (h:Sl w a n c xs) (ox:Ok xs) (hn:n ≤ 1000000000) (hi:i ≤ 9223372036854775807) :
  Calls Tryz.prog 166 #[.slice a n c,.int .i64 (i:Nat)] w fun e w' => e = .returned (.int .u32 (bitN (val xs) i:Nat)) ∧ w' = w:=by
 have hl:=h.len
 rw [bit_limb ox rfl rfl]
 by_cases hln:i / 32 < n
 ·have hx:xs ≠ []:=by intro e; rw [e] at hl; simp at hl; omega
  obtain ⟨b,off,rfl,hc⟩:=h.cells.resolve_left hx
  exact wbit_in b off n c _ i (i / 32) (i % 32) w hn (by omega) (by omega) (by omega) hln hi (ox.getD _) (hc _ (by omega))
 ·rw [getD_ge (by omega)]
  simp only [Nat.zero_div,Nat.zero_mod]
  exact wbit_out a n c i (i / 32) w (by omega) hi (by omega)

set_option maxHeartbeats 1000000 in
theorem wbits_any (a:Option Addr) (n c:Nat) (xs:List Nat) (w:World) (h:Sl w a n c xs) (ox:Ok xs) (hn:n ≤ 1000000000) :
  Calls Tryz.prog 110 #[.slice a n c] w fun e w' => e = .returned (.int .i64 (bitsN xs:Nat)) ∧ w' = w:=by
 have hl:=h.len
 by_cases h0:xs = []
 ·have:n = 0:=by rw [← hl,h0]; rfl
  subst this
  have HE:=Hd (show bitsN xs = 0 from by simp [bitsN,h0])
  go_enter Tryz.func110,Tryz.ntmps110
  go_wp2
  go_ret
  exact ⟨by rw [Uh HE]; rfl,rfl⟩
 ·have hp:0 < n:=by rw [← hl]; exact List.length_pos_iff.2 h0
  obtain ⟨b,off,rfl,hc⟩:=h.cells.resolve_left h0
  have hk:=hc (n - 1) (by omega)
  have HE:=Hd (show bitsN xs = 32 * (n - 1) + Lib.bitLen (xs.getD (n - 1) 0) from by simp [bitsN,h0,bitsL,hl,Nat.mul_comm])
  have hx:=ox.getD (n - 1)
  generalize xs.getD (n - 1) 0 = x at *
  have hle:Lib.bitLen x ≤ 64:=Lib.bitLen_le x 64 (by omega) (by omega)
  have h1:((n:Int) == 0) = false:=by simp; omega
  have h2:((n:Int) - 1).toNat = n - 1:=by omega
  clear h hc hl h0
  go_enter Tryz.func110,Tryz.ntmps110
  go_wp2
  go_loop [3,4] (fun i xv => ∃ y k:Nat,y < 4294967296 ∧ xv = .int .u32 (y:Nat) ∧ i = .int .i64 (k:Nat) ∧ k + Lib.bitLen y = 32 * (n - 1) + Lib.bitLen x) (fun _ xv => (intOf xv).toNat)
  case atStart => exact ⟨x,32 * (n - 1),hx,rfl,by congr 1; omega,rfl⟩
  case round =>
   obtain ⟨y,k,hy,rfl,rfl,he⟩:=hrel
   by_cases hy0:y = 0
   ·have hk2:k = 32 * (n - 1) + Lib.bitLen x:=by
     have h00:Lib.bitLen 0 = 0:=by decide +kernel
     rw [hy0,h00] at he
     omega
    have HK:=Hd hk2
    have hpos:¬ (0:Int) < (y:Int):=by omega
    clear he hk2 hy0
    go_wp2
    go_ret
    exact ⟨by rw [Uh HE,Uh HK]; rfl,rfl⟩
   ·have hpos:(0:Int) < (y:Int):=by omega
    have hb:=Lib.bitLen_half y hy0 (by omega)
    have HB:=Hd (show k + 1 + Lib.bitLen (y / 2) = 32 * (n - 1) + Lib.bitLen x by omega)
    have hd:(y:Int).tdiv 2 = ((y / 2:Nat):Int):=by rw [Int.tdiv_eq_ediv_of_nonneg (by omega)]; omega
    have hkb:k ≤ 33000000000:=by omega
    clear he hb
    go_wp2
    exact ⟨⟨y / 2,k + 1,by omega,by first | rfl | (congr 1; omega),by congr 1,Uh HB⟩,by simp [intOf]; omega⟩
end Go.Proofs.YtlolnaegfponeaaGreatDoor
