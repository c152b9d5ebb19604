/- Shr -/
import Derived.Test.YtjoaijbhpgekoaaGreatDoorShl
import Derived.Test.YtjoaijbhpgekoaaGreatDoorBase
import Derived.Lib.BitFns
namespace Go.Proofs.YtjoaijbhpgekoaaGreatDoor
open Go.RowKit Go.Deep
set_option linter.unusedVariables false
theorem val_drop {xs:List Nat} (ox:Ok xs) (i:Nat):val (xs.drop i) = val xs / 4294967296 ^ i:=by
 by_cases h:i ≤ xs.length
 ·have e:=val_split xs i h
  have b:=val_lt (ox.take i)
  rw [List.length_take,Nat.min_eq_left h] at b
  rw [e,Nat.add_mul_div_left _ _ (pow_pos i),Nat.div_eq_of_lt b,Nat.zero_add]
 ·rw [List.drop_eq_nil_of_le (by omega)]
  have b:=val_lt ox
  have:4294967296 ^ xs.length ≤ 4294967296 ^ i:=pow_mono (by omega)
  rw [Nat.div_eq_of_lt (by omega)]
  rfl

theorem val_drop_step (xs:List Nat) (i:Nat):val (xs.drop i) = xs.getD i 0 + 4294967296 * val (xs.drop (i + 1)):=by
 by_cases h:i < xs.length
 ·rw [drop_cons h]; rfl
 ·rw [List.drop_eq_nil_of_le (by omega),List.drop_eq_nil_of_le (by omega),getD_ge (by omega)]; rfl

theorem valF_digits (v:Nat):∀ (m:Nat),valF (fun i => v / 4294967296 ^ i % 4294967296) m = v % 4294967296 ^ m
 | 0 => by simp [valF,Nat.mod_one]
 | m + 1 => by
  simp only [valF]
  rw [valF_digits v m,Nat.pow_succ,Nat.mod_mul]

def dv (lo hi:Nat):Nat:=lo + 4294967296 * hi
def srd (lo hi s:Nat):Nat:=dv lo hi / 2 ^ s % 4294967296
theorem srd_lt (lo hi s:Nat):srd lo hi s < 4294967296:=by unfold srd; exact Nat.mod_lt _ (by decide)
theorem dv_int {lo hi:Nat} (h1:lo < 4294967296) (h2:hi < 4294967296):bits .or .u64 ((hi:Int) * 4294967296) (lo:Int) = ((dv lo hi:Nat):Int):=or_halves hi lo h2 h1
theorem dv_int2 {lo hi:Nat} (h1:lo < 4294967296) (h2:hi < 4294967296):bits .or .u64 (lo:Int) ((hi:Int) * 4294967296) = ((dv lo hi:Nat):Int):=by
 rw [← dv_int h1 h2]
 simp only [bits,BitVec.or_comm]
theorem srd_int (lo hi s:Nat):((dv lo hi:Nat):Int) / 2 ^ s % 4294967296 = ((srd lo hi s:Nat):Int):=by
 unfold srd
 rw [Int.natCast_emod,Int.natCast_ediv,Int.natCast_pow]
 rfl
theorem dv_lt {lo hi:Nat} (h1:lo < 4294967296) (h2:hi < 4294967296):dv lo hi < 18446744073709551616:=by unfold dv; omega

def shF (xs:List Nat) (l s i:Nat):Nat:=srd (xs.getD (l + i) 0) (xs.getD (l + i + 1) 0) s

theorem shF_digit {xs:List Nat} (ox:Ok xs) {l s:Nat} (hs:s < 32) (i:Nat):shF xs l s i = val xs / (4294967296 ^ l * 2 ^ s) / 4294967296 ^ i % 4294967296:=by
 have e1:=val_drop_step xs (l + i)
 have e2:=val_drop_step xs (l + i + 1)
 have e3:=val_drop ox (l + i)
 have hp:=pow_split hs
 have hpos:=(pow_s hs).1
 rw [Nat.div_div_eq_div_mul,show 4294967296 ^ l * 2 ^ s * 4294967296 ^ i = 4294967296 ^ (l + i) * 2 ^ s from by rw [Nat.pow_add,Nat.mul_assoc,Nat.mul_comm (2 ^ s),← Nat.mul_assoc],← Nat.div_div_eq_div_mul,← e3,e1,e2]
 unfold shF srd dv
 generalize val (xs.drop (l + i + 1 + 1)) = r
 generalize xs.getD (l + i) 0 = a
 generalize xs.getD (l + i + 1) 0 = b
 have e4:a + 4294967296 * (b + 4294967296 * r) = (a + 4294967296 * b) + 2 ^ s * (4294967296 * (2 ^ (32 - s) * r)):=by
  have:2 ^ s * (4294967296 * (2 ^ (32 - s) * r)) = 4294967296 * (4294967296 * r):=by
   rw [Nat.mul_left_comm,← Nat.mul_assoc (2 ^ s),hp]
  rw [this]; omega
 rw [e4,Nat.add_mul_div_left _ _ (by omega),Nat.add_mul_mod_self_left]

theorem shr_val {xs:List Nat} (ox:Ok xs) {n k l s:Nat} (hl:xs.length = n) (hln:l ≤ n) (hk:k / 32 = l) (hs:k % 32 = s):valF (shF xs l s) (n - l) = val xs / 2 ^ k:=by
 have hs32:s < 32:=by omega
 rw [valF_congr (fun i _ => shF_digit ox hs32 i),valF_digits]
 have e:=sh_total (v:=1) hk hs
 rw [Nat.one_mul,Nat.one_mul,Nat.mul_comm] at e
 rw [e]
 apply Nat.mod_eq_of_lt
 have b:=val_lt ox
 rw [hl] at b
 rw [← e,← Nat.div_div_eq_div_mul]
 have h1:val xs / 4294967296 ^ l < 4294967296 ^ (n - l):=by
  rw [Nat.div_lt_iff_lt_mul (pow_pos l),← Nat.pow_add,show n - l + l = n from by omega]
  exact b
 exact Nat.lt_of_le_of_lt (Nat.div_le_self _ _) h1

theorem make_sub (n l:Nat) (hle:l ≤ n) (h:n ≤ 70368744177600) (w:World):(Instr.makeSlice 36 (.int .i64 ((n:Int) - (l:Int))) (.int .i64 ((n:Int) - (l:Int)))).run Tryz.prog w = .ok (.slice (some ⟨w.heap.size,0,none⟩) (n - l) (n - l)) (w.alloc (.cells (madeCells #[.int .u32 0] (n - l)) 94)):=by
 have:=make_len (n - l) (by omega) w
 rw [show ((n - l:Nat):Int) = (n:Int) - (l:Int) from by omega] at this
 exact this

theorem sr_step {wr w:World} {m j l s:Nat} {xs:List Nat} (hf:Fn wr w.heap.size 0 m (fun i => if i < j then shF xs l s i else 0)) (hlt:j < m) (hb:Below w.heap.size w wr) :
  Fn (wr.setCell ⟨w.heap.size,j,none⟩ (.int .u32 (srd (xs.getD (l + j) 0) (xs.getD (l + j + 1) 0) s:Nat))) w.heap.size 0 m (fun i => if i < j + 1 then shF xs l s i else 0) ∧ Below w.heap.size w (wr.setCell ⟨w.heap.size,j,none⟩ (.int .u32 (srd (xs.getD (l + j) 0) (xs.getD (l + j + 1) 0) s:Nat))):=by
 refine ⟨?_,hb.setCell (Nat.le_refl _) _⟩
 have h:=hf.set j (srd (xs.getD (l + j) 0) (xs.getD (l + j + 1) 0) s) hlt
 simp only [Nat.zero_add] at h
 refine h.congr ?_
 intro i hi
 by_cases e:i = j
 ·simp [e,shF]
 ·by_cases e2:i < j
  ·simp [e,e2,show i < j + 1 from by omega]
  ·simp [e,e2,show ¬ i < j + 1 from by omega]

theorem fn_drewN {w:World} {b off n:Nat} {f:Nat → Nat} (h:Fn w b off n f) (k:Nat):Fn (w.drewN k) b off n f:=h

def Fz (w:World) (a:Option Addr) (m:Nat):Prop:=∀ x,a = some x → ∀ i,i < m → w.frozen? ⟨x.block,x.off + i,none⟩ = false
theorem Fz.nil (w:World) (m:Nat):Fz w none m:=fun x hx => by cases hx
def NewRepF (w w':World) (v:Nat) (e:Ending):Prop :=
 ∃ a' m ys,e = .returned (.slice a' m m) ∧ Sl w' a' m m ys ∧ Rep v ys ∧ NewAt w.heap.size a' ∧ Below w.heap.size w w' ∧ Fz w' a' m
theorem NewRepF.rep {w w':World} {v:Nat} {e:Ending} (h:NewRepF w w' v e):NewRep w w' v e:=by
 obtain ⟨a',m,ys,h1,h2,h3,h4,h5,_⟩:=h
 exact ⟨a',m,ys,h1,h2,h3,h4,h5⟩
theorem rep_len_leS {v j:Nat} {zs:List Nat} (h:Rep v zs) (hv:v < 4294967296 ^ j):zs.length ≤ j:=by
 rcases Nat.lt_or_ge j zs.length with k | k
 ·exfalso
  have hz:zs ≠ []:=by intro e; rw [e] at k; simp at k
  have h1:=val_ge_of_norm h.norm hz
  rw [h.val] at h1
  have h2:4294967296 ^ j ≤ 4294967296 ^ (zs.length - 1):=pow_mono (by omega)
  omega
 ·exact k

set_option maxHeartbeats 2000000 in
theorem shr_some (b off n c:Nat) (xs:List Nat) (w:World) (k l s:Nat) (hsl:Sl w (some ⟨b,off,none⟩) n c xs) (hc:Cells w b off xs) (ox:Ok xs) (hkl:(k:Int) / 32 = (l:Int)) (hks:(k:Int) % 32 = (s:Int)) (hs32:s < 32) (hk0:k ≤ 65536) (hln:l < n) (hn2:n ≤ 2048) :
  Calls Tryz.prog 132 #[.slice (some ⟨b,off,none⟩) n c,.int .i64 (k:Nat)] w fun e w' => NewRepF w w' (val xs / 2 ^ k) e:=by
 have hmk:=fun w => make_sub n l (by omega) (by omega) w
 have hge:¬ (n:Int) ≤ (l:Int):=by omega
 have HL:=Hj hsl.len
 have HT:=Hj (shr_val ox hsl.len (by omega) (show k / 32 = l by omega) (show k % 32 = s by omega))
 go_enter Tryz.func132,Tryz.ntmps132
 go_wp2_with fail
 try rw [hks]
 clear hkl hks hk0
 have hnl:((n - l:Nat):Int) = (n:Int) - (l:Int):=by omega
 go_loopw [25] (fun i wr => ∃ j:Nat,j ≤ n - l ∧ i = .int .i64 j ∧ Fn wr w.heap.size 0 (n - l) (fun i => if i < j then shF xs l s i else 0) ∧ Below w.heap.size w wr) (fun i _ => n - l - (intOf i).toNat)
 case atStart => exact ⟨0,Nat.zero_le _,rfl,by simpa using Fn.made w (n - l) _,bAl⟩
 case round =>
  obtain ⟨j,hj,rfl,hf,hbel⟩:=hrel
  by_cases hlt:j < n - l
  ·have hlt':(j:Int) < (n:Int) - (l:Int):=by omega
   have hb1:(l:Int) + (j:Int) < (n:Int):=by omega
   have g0:=hc (l + j) (by rw [Uh HL]; omega)
   have g1:wr.cell? ⟨b,off + (l + j),none⟩ = _:=(ck hbel g0)
   have c1:=(hf j hlt).1
   have c2:=(hf j hlt).2
   simp only [Nat.zero_add] at c1 c2
   generalize ((if j < j then shF xs l s j else 0:Nat):Int) = old at c1
   have KL:=fun q => limbAt_any (some ⟨b,off,none⟩) n c xs ((l:Int) + (j:Int) + 1) (wr.drewN q) ((hsl.below hbel).drewN q) (by omega)
   rw [show ((l:Int) + (j:Int) + 1).toNat = l + j + 1 from by omega] at KL
   have KL':=Hj KL
   have bx:=ox.getD (l + j)
   have bY:=ox.getD (l + j + 1)
   have e0:=dv_int (lo:=xs.getD (l + j) 0) (hi:=xs.getD (l + j + 1) 0) bx bY
   have e1:=srd_int (xs.getD (l + j) 0) (xs.getD (l + j + 1) 0) s
   have b1:=dv_lt (lo:=xs.getD (l + j) 0) (hi:=xs.getD (l + j + 1) 0) bx bY
   have HS:=Hj (sr_step hf hlt hbel)
   generalize xs.getD (l + j) 0 = x at *
   generalize xs.getD (l + j + 1) 0 = y at *
   clear hf hbel g0 KL
   go_wp2_with fail
   go_quiet ((go_at_call 125; exact Calls.quiet_of_same (Uh KL' _)))
   go_wp2
   exact ⟨⟨j + 1,by omega,by go_num,fn_drewN (Uh HS).1 _,bel_drewN (Uh HS).2 _⟩,by simp [intOf]; omega⟩
  ·have hjn:j = n - l:=by omega
   have hf2:Fn wr w.heap.size 0 (n - l) (shF xs l s):=hf.congr (fun i hi => by rw [hjn]; simp [hi])
   have KT:=trim_any _ (n - l) (n - l) _ wr (hf2.sl (Nat.le_refl _) (by unfold maxLen; omega)) (lst_ok (fun i _ => srd_lt _ _ _))
   rw [lst_val,Uh HT] at KT
   have KT':=Hj KT
   have HB:=Hj hbel
   have HF2:=Hj hf2
   have HVL:=Hj (show val xs / 2 ^ k < 4294967296 ^ (n - l) from by rw [← Uh HT]; exact valF_lt (fun i _ => srd_lt _ _ _))
   have hlt':¬ (j:Int) < (n:Int) - (l:Int):=by omega
   clear hf hf2 KT hbel hjn
   go_wp2_with fail
   refine (Uh KT').mono ?_
   rintro e w3 ⟨a',m,zs,rfl,hs,hr,ha,rfl⟩
   go_wp2
   go_ret
   have hml:m ≤ n - l:=by rw [← hs.len]; exact rep_len_leS hr (Uh HVL)
   refine ⟨a',m,zs,rfl,hs,hr,?_,Uh HB,?_⟩
   ·intro x hx
    rcases ha with rfl | rfl
    ·cases hx; exact Nat.le_refl _
    ·cases hx
   ·intro x hx i hi
    rcases ha with rfl | rfl
    ·cases hx; exact (Uh HF2 i (by omega)).2
    ·cases hx

set_option maxHeartbeats 400000 in
theorem shr_out (a:Option Addr) (n c k l s:Nat) (w:World) (hk0:k ≤ 65536) (hl0:l ≤ 2048) (hs0:s < 32) (hkl:(k:Int) / 32 = (l:Int)) (hks:(k:Int) % 32 = (s:Int)) (hge:(n:Int) ≤ (l:Int)) :
  Calls Tryz.prog 132 #[.slice a n c,.int .i64 (k:Nat)] w fun e w' => e = .returned (.slice none 0 0) ∧ w' = w:=by
 go_enter Tryz.func132,Tryz.ntmps132
 go_wp2
 go_ret
 exact ⟨rfl,rfl⟩

theorem shr_zero {xs:List Nat} (ox:Ok xs) {n k l:Nat} (hl:xs.length = n) (hk:k / 32 = l) (h:n ≤ l):val xs / 2 ^ k = 0:=by
 apply Nat.div_eq_of_lt
 have b:=val_lt ox
 have e:=sh_total (v:=1) hk (rfl:k % 32 = k % 32)
 rw [Nat.one_mul,Nat.one_mul] at e
 have h1:4294967296 ^ xs.length ≤ 4294967296 ^ l:=pow_mono (by omega)
 have h2:4294967296 ^ l ≤ 2 ^ (k % 32) * 4294967296 ^ l:=Nat.le_mul_of_pos_left _ (Nat.pow_pos (by decide))
 omega

theorem shr_anyF (a:Option Addr) (n c:Nat) (xs:List Nat) (w:World) (k:Nat) (h:Sl w a n c xs) (ox:Ok xs) (hn:n ≤ 2048) (hk:k ≤ 65536) :
  Calls Tryz.prog 132 #[.slice a n c,.int .i64 (k:Nat)] w fun e w' => NewRepF w w' (val xs / 2 ^ k) e:=by
 by_cases h0:n ≤ k / 32
 ·refine (shr_out a n c k (k / 32) (k % 32) w hk (by omega) (by omega) (by omega) (by omega) (by omega)).mono ?_
  rintro e w' ⟨rfl,rfl⟩
  refine ⟨none,0,[],rfl,sl_nil _,⟨Ok.nil,.inl rfl,?_⟩,newAt_nil _,Below.refl _ _,Fz.nil _ _⟩
  rw [shr_zero ox h.len rfl h0]; rfl
 ·have hx:xs ≠ []:=by intro e; have:=h.len; rw [e] at this; simp at this; omega
  rcases h.cells with e | ⟨b,off,rfl,hc⟩
  ·exact absurd e hx
  ·exact shr_some b off n c xs w k (k / 32) (k % 32) h hc ox (by omega) (by omega) (by omega) hk (by omega) hn

structure SrR (wr w:World) (xs:List Nat) (l s:Nat) (v:Value) (j:Nat):Prop where
 own:wr.ownsRow w.heap.size 94 1 v j (vals (lst (shF xs l s) j))
 bel:Below w.heap.size w wr

theorem SrR.step {wr w w1:World} {xs:List Nat} {l s:Nat} {v v':Value} {j:Nat} {o:Obj} (h:SrR wr w xs l s v j)
  (hown:w1.ownsRow w.heap.size 94 1 v' (j + 1) (vals (lst (shF xs l s) j) ++ [.int .u32 (srd (xs.getD (l + j) 0) (xs.getD (l + j + 1) 0) s:Nat)])) (hg:(wr.alloc o).grownBy w1 v.ownBlock):SrR w1 w xs l s v' (j + 1):=by
 have hs:=h.bel.size
 refine ⟨?_,Below.grown (h.bel.alloc (by omega) o) hg (by simp; omega) (fun k hk => (own_ge h.own k hk).1)⟩
 have e:vals (lst (shF xs l s) j) ++ [.int .u32 (srd (xs.getD (l + j) 0) (xs.getD (l + j + 1) 0) s:Nat)] = vals (lst (shF xs l s) (j + 1)):=by
  simp [vals,lst,List.range_succ,shF]
 rw [← e]; exact hown

theorem fit_shr {xs:List Nat} (ox:Ok xs) (h1:xs.length ≤ 2048) (k:Nat):fitL (val xs / 2 ^ k) = (limbs (val xs / 2 ^ k),0):=by
 apply fitL_ok
 intro hb
 have hr:=limbs_rep (val xs / 2 ^ k)
 have h2:=val_ge_of_norm hr.norm (by intro e; rw [e] at hb; simp at hb)
 have h3:=val_lt ox
 have h4:4294967296 ^ xs.length ≤ 4294967296 ^ ((limbs (val xs / 2 ^ k)).length - 1):=pow_mono (by omega)
 have h5:val xs / 2 ^ k ≤ val xs:=Nat.div_le_self _ _
 rw [hr.val] at h2
 omega

set_option maxHeartbeats 4000000 in
theorem rshr_core (a:Option Addr) (n c:Nat) (xs:List Nat) (w:World) (k l s:Nat) (hsl:Sl w a n c xs) (ox:Ok xs) (hkl:(k:Int) / 32 = (l:Int)) (hks:(k:Int) % 32 = (s:Int)) (hs32:s < 32) (hk0:k ≤ 65536) (hn2:n ≤ 2048)
  (K1:Hid (Calls Tryz.prog 71 #[.slice a n c] w fun e w' => e = .returned (.bool true) ∧ w' = w)) :
  Calls Tryz.prog 73 #[.slice a n c,.int .i64 (k:Nat)] w fun e w' => Res2 w w' (limbs (val xs / 2 ^ k),0) e:=by
 have hk00:¬ (k:Int) < 0:=by omega
 have hk01:¬ (65536:Int) < (k:Int):=by omega
 have HL:=Hj hsl.len
 have HV:=Hj (fun (hln:l ≤ n) => shr_val ox hsl.len hln (show k / 32 = l by omega) (show k % 32 = s by omega))
 have HZ:=Hj (fun (hln:n ≤ l) => shr_zero (k:=k) (l:=l) ox hsl.len (by omega) hln)
 have hl0:l ≤ 2048:=by omega
 obtain ⟨i80,hi80,hz80,hs80,hb80⟩:=info_parts Tryz.info_u32
 have I80:=Hj (And.intro hi80 (And.intro hz80 (And.intro hs80 hb80)))
 clear hi80 hz80 hs80 hb80
 go_enter Tryz.func73,Tryz.ntmps73
 go_wp2_with fail
 refine (Uh K1).mono ?_
 rintro e w' ⟨rfl,hw⟩
 obtain rfl:=hw.symm
 clear K1
 go_wp2_with fail
 go_loopw [6,7] (fun v i wr => ∃ j:Nat,(j = 0 ∨ l + j ≤ n) ∧ i = .int .i64 ((l:Int) + (j:Int)) ∧ SrR wr w xs l s v j) (fun _ i _ => n - (intOf i).toNat)
 case atStart => exact ⟨0,.inl rfl,by simp,⟨World.ownsRow_nil _ _ _ _,Below.refl _ _⟩⟩
 case round =>
  obtain ⟨j,hj,rfl,hR⟩:=hrel
  have hj2:j ≤ 2048:=by omega
  by_cases hlt:l + j < n
  ·have hlt':(l:Int) + (j:Int) < (n:Int):=by omega
   have KX:=rat_any a n c xs (l + j) wr (hsl.below hR.bel) ox
   have KY:=rat_any a n c xs (l + j + 1) wr (hsl.below hR.bel) ox
   rw [show ((l + j:Nat):Int) = (l:Int) + (j:Int) from by omega] at KX
   rw [show ((l + j + 1:Nat):Int) = (l:Int) + (j:Int) + 1 from by omega] at KY
   have KX':=Hj KX
   have KY':=Hj KY
   have bx:=ox.getD (l + j)
   have bY:=ox.getD (l + j + 1)
   have e0:=dv_int2 (lo:=xs.getD (l + j) 0) (hi:=xs.getD (l + j + 1) 0) bx bY
   have e1:=srd_int (xs.getD (l + j) 0) (xs.getD (l + j + 1) 0) s
   have b1:=dv_lt (lo:=xs.getD (l + j) 0) (hi:=xs.getD (l + j + 1) 0) bx bY
   have HS:=Hj (fun w1 v' o hown hg => (SrR.step (w1:=w1) (v':=v') (o:=o) hR hown hg))
   have HR:=Hj hR
   generalize xs.getD (l + j) 0 = x at *
   generalize xs.getD (l + j + 1) 0 = y at *
   clear hR KX KY
   go_wp2_with fail
   refine (Uh KX').mono ?_
   rintro e w' ⟨rfl,hw⟩
   obtain rfl:=hw.symm
   go_wp2_with fail
   refine (Uh KY').mono ?_
   rintro e w' ⟨rfl,hw⟩
   obtain rfl:=hw.symm
   go_wp2_with (at_builtin; refine wpList_append_lies _ rfl _ _ 36 rfl w.heap.size 94 i80 (.int .u32 0) 1 4 Tryz.underlying36 (Uh I80).1 (Uh I80).2.1 (Uh I80).2.2.1 (Uh I80).2.2.2 rfl (by decide) _ j _ rfl ((Uh HR).own.alloc _) ⟨wr.heap.size,0,none⟩ 1 1 [.int .u32 (srd x y s:Nat)] rfl rfl (World.news_of_block (alloc_block _ _)) one_int (by decide) ?c31 ?c41 ?c51 (wr.heap.size + 1) (by simp) ?_)
   case c31 => unfold maxLen; omega
   case c41 => omega
   case c51 => have:=(Uh HR).bel.size; simp; omega
   intro g1 cc w2 hown hgrow hat hlt2
   have HN:=Hj (Uh HS w2 _ _ hown hgrow)
   clear hown hgrow hat hlt2 HS HR KX' KY'
   go_wp2
   exact ⟨⟨j + 1,.inr (by omega),by first | rfl | (congr 1; omega) | congr 1,Uh HN⟩,by simp [intOf]; omega⟩
  ·have hlt':¬ (l:Int) + (j:Int) < (n:Int):=by omega
   obtain ⟨a',c',hv,hs,hn⟩:=own_sl hR.own
   have KF:=rfit_any a' j c' _ wr hs (lst_ok (fun i _ => srd_lt _ _ _)) (by omega)
   have hval:valF (shF xs l s) j = val xs / 2 ^ k:=by
    rcases Nat.lt_or_ge l n with h | h
    ·have:j = n - l:=by omega
     rw [this]; exact Uh HV (by omega)
    ·have:j = 0:=by omega
     rw [this,Uh HZ h]; rfl
   rw [lst_val,hval,fit_shr ox (by rw [Uh HL]; omega)] at KF
   have KF':=Hj KF
   have HB:=Hj hR.bel
   subst hv
   clear hR hs hn KF hval
   go_wp2_with fail
   refine (Uh KF').mono ?_
   rintro e w2 ⟨a2',m2,c2',rfl,hs2,ha2,hb2⟩
   have HX:=Hj (And.intro hs2 (And.intro ha2 hb2))
   clear hs2 ha2 hb2
   go_wp2
   go_ret2
   exact ⟨a2',m2,c2',rfl,(Uh HX).1,fun x hx => Nat.le_trans (Uh HB).size ((Uh HX).2.1 x hx),(Uh HB).trans ((Uh HX).2.2.mono (Uh HB).size)⟩

theorem tab_size:Lib.len8tab.size = 256:=by decide +kernel
theorem tab_all:∀ n:Fin 256,(Lib.len8tab[n.val]'(by rw [tab_size]; exact n.isLt)).toNat = Lib.bitLen n.val:=by decide +kernel
theorem tab_at (n:Nat) (h:n < Lib.len8tab.size):(Lib.len8tab[n]'h).toNat = Lib.bitLen n:=tab_all ⟨n,by rw [tab_size] at h; exact h⟩
theorem bl8 (n:Nat) (h:n < 256):Lib.bitLen n ≤ 8:=Lib.bitLen_le8 ⟨n,h⟩
theorem wr_small (n:Int) (h0:0 ≤ n) (h1:n ≤ 100):wrap64 n = n:=by unfold wrap64; omega

set_option maxHeartbeats 4000000 in
set_option maxRecDepth 100000 in
theorem len32_a (x:Int) (w:World) (h0:0 ≤ x) (h1:x < 256) :
  Calls Tryz.prog 99 #[.int .u32 x] w fun e w' => e = .returned (.int .i64 (Lib.bitLen x.toNat)) ∧ w' = w:=by
 have hs:=tab_size
 have ha:¬ (65536:Int) ≤ x:=by omega
 have hb:¬ (256:Int) ≤ x:=by omega
 go_enter Tryz.func99,Tryz.ntmps99
 go_wp2
 go_ret
 refine ⟨congrArg Ending.returned (congrArg (Value.int IntKind.i64) ?_),rfl⟩
 rw [tab_at]
 have l:=bl8 x.toNat (by omega)
 rw [wr_small ((Lib.bitLen x.toNat:Nat):Int) (by omega) (by omega)]
 rw [wr_small ((Lib.bitLen x.toNat:Nat):Int) (by omega) (by omega)]

set_option maxHeartbeats 4000000 in
set_option maxRecDepth 100000 in
theorem len32_b (x:Int) (w:World) (h0:256 ≤ x) (h1:x < 65536) :
  Calls Tryz.prog 99 #[.int .u32 x] w fun e w' => e = .returned (.int .i64 (Lib.bitLen x.toNat)) ∧ w' = w:=by
 have hs:=tab_size
 have ha:¬ (65536:Int) ≤ x:=by omega
 have hb:(256:Int) ≤ x:=by omega
 go_enter Tryz.func99,Tryz.ntmps99
 go_wp2
 go_ret
 refine ⟨congrArg Ending.returned (congrArg (Value.int IntKind.i64) ?_),rfl⟩
 have e:(x / 256).toNat = x.toNat / 256:=by omega
 have l:=bl8 (x.toNat / 256) (by omega)
 have s:=Lib.bitLen_shift8 x.toNat (by omega) (by omega)
 rw [tab_at,e]
 rw [wr_small ((Lib.bitLen (x.toNat / 256):Nat):Int) (by omega) (by omega)]
 rw [wr_small _ (by omega) (by omega)]
 omega

set_option maxHeartbeats 4000000 in
set_option maxRecDepth 100000 in
theorem len32_c (x:Int) (w:World) (h0:65536 ≤ x) (h1:x < 16777216) :
  Calls Tryz.prog 99 #[.int .u32 x] w fun e w' => e = .returned (.int .i64 (Lib.bitLen x.toNat)) ∧ w' = w:=by
 have hs:=tab_size
 have ha:(65536:Int) ≤ x:=by omega
 have hb:¬ (256:Int) ≤ x / 65536:=by omega
 go_enter Tryz.func99,Tryz.ntmps99
 go_wp2
 go_ret
 refine ⟨congrArg Ending.returned (congrArg (Value.int IntKind.i64) ?_),rfl⟩
 have e:(x / 65536).toNat = x.toNat / 65536:=by omega
 have l:=bl8 (x.toNat / 65536) (by omega)
 have s:=Lib.bitLen_shift16 x.toNat (by omega) (by omega)
 rw [tab_at,e]
 rw [wr_small ((Lib.bitLen (x.toNat / 65536):Nat):Int) (by omega) (by omega)]
 rw [wr_small _ (by omega) (by omega)]
 omega

set_option maxHeartbeats 4000000 in
set_option maxRecDepth 100000 in
theorem len32_d (x:Int) (w:World) (h0:16777216 ≤ x) (h1:x ≤ 4294967295) :
  Calls Tryz.prog 99 #[.int .u32 x] w fun e w' => e = .returned (.int .i64 (Lib.bitLen x.toNat)) ∧ w' = w:=by
 have hs:=tab_size
 have ha:(65536:Int) ≤ x:=by omega
 have hb:(256:Int) ≤ x / 65536:=by omega
 go_enter Tryz.func99,Tryz.ntmps99
 go_wp2
 go_ret
 refine ⟨congrArg Ending.returned (congrArg (Value.int IntKind.i64) ?_),rfl⟩
 have e:(x / 65536 / 256).toNat = x.toNat / 16777216:=by omega
 have l:=bl8 (x.toNat / 16777216) (by omega)
 have s:=Lib.bitLen_shift24 x.toNat (by omega) (by omega)
 rw [tab_at,e]
 rw [wr_small ((Lib.bitLen (x.toNat / 16777216):Nat):Int) (by omega) (by omega)]
 rw [wr_small _ (by omega) (by omega)]
 omega

theorem len32_any (x:Nat) (w:World) (h1:x < 4294967296) :
  Calls Tryz.prog 99 #[.int .u32 (x:Nat)] w fun e w' => e = .returned (.int .i64 (Lib.bitLen x:Nat)) ∧ w' = w:=by
 by_cases ha:x < 256
 ·exact len32_a x w (by omega) (by omega)
 ·by_cases hb:x < 65536
  ·exact len32_b x w (by omega) (by omega)
  ·by_cases hc:x < 16777216
   ·exact len32_c x w (by omega) (by omega)
   ·exact len32_d x w (by omega) (by omega)
theorem valF_add (f:Nat → Nat) (i:Nat):∀ (m:Nat),valF f (i + m) = valF f i + 4294967296 ^ i * valF (fun k => f (i + k)) m
 | 0 => by simp [valF]
 | m + 1 => by
  rw [← Nat.add_assoc]
  simp only [valF]
  rw [valF_add f i m,Nat.pow_add,Nat.mul_add,Nat.mul_assoc]
  omega

def mdl (x y r c:Nat):Nat:=(x * y + r + c) % 4294967296
def mdh (x y r c:Nat):Nat:=(x * y + r + c) / 4294967296
theorem mdl_lt (x y r c:Nat):mdl x y r c < 4294967296:=by unfold mdl; exact Nat.mod_lt _ (by decide)
theorem md_eq (x y r c:Nat):mdl x y r c + 4294967296 * mdh x y r c = x * y + r + c:=by unfold mdl mdh; exact Nat.mod_add_div _ _
theorem mul_bound {x y:Nat} (hx:x < 4294967296) (hy:y < 4294967296):x * y ≤ 18446744065119617025:=by
 have:x * y ≤ 4294967295 * 4294967295:=Nat.mul_le_mul (by omega) (by omega)
 omega
theorem mdh_lt {x y r c:Nat} (hx:x < 4294967296) (hy:y < 4294967296) (hr:r < 4294967296) (hc:c < 4294967296):mdh x y r c < 4294967296:=by
 have:=mul_bound hx hy
 unfold mdh
 generalize x * y = p at *
 omega
theorem mdl_int (x y r c:Nat):((x:Int) * y + r + c) % 4294967296 = ((mdl x y r c:Nat):Int):=by
 unfold mdl
 rw [← Int.natCast_mul]
 generalize x * y = p
 omega
theorem mdh_int (x y r c:Nat):((x:Int) * y + r + c) / 4294967296 = ((mdh x y r c:Nat):Int):=by
 unfold mdh
 rw [← Int.natCast_mul]
 generalize x * y = p
 omega

structure RowR (wr w:World) (bz oz nz:Nat) (f:Nat → Nat) (i y:Nat) (xs:List Nat) (j c:Nat) (g:Nat → Nat):Prop where
 cle:c < 4294967296
 fn:Fn wr bz oz nz g
 ok:∀ k,k < nz → g k < 4294967296
 lo:∀ k,k < i → g k = f k
 hi:∀ k,i + j ≤ k → k < nz → g k = f k
 val:valF (fun k => g (i + k)) j + 4294967296 ^ j * c = valF (fun k => f (i + k)) j + valF (fun k => xs.getD k 0) j * y
 upd:Upd bz oz (oz + nz) w wr

theorem row_arith {P A F X c l h x y r:Nat} (h1:A + P * c = F + X * y) (e:l + 4294967296 * h = x * y + r + c):A + P * l + P * 4294967296 * h = F + P * r + (X + P * x) * y:=by
 have h2:P * l + P * 4294967296 * h = P * (x * y) + P * r + P * c:=by
  rw [Nat.mul_assoc,← Nat.mul_add,e,Nat.mul_add,Nat.mul_add]
 rw [Nat.add_mul,Nat.mul_assoc P x y]
 generalize P * l = a1 at *
 generalize P * 4294967296 * h = a2 at *
 generalize P * (x * y) = a3 at *
 generalize P * r = a4 at *
 generalize P * c = a5 at *
 generalize X * y = a6 at *
 omega

theorem RowR.step {wr w:World} {bz oz nz:Nat} {f:Nat → Nat} {i y:Nat} {xs:List Nat} {j c:Nat} {g:Nat → Nat} (h:RowR wr w bz oz nz f i y xs j c g) (hj:i + j < nz) (hx:xs.getD j 0 < 4294967296) (hy:y < 4294967296) :
  RowR (wr.setCell ⟨bz,oz + i + j,none⟩ (.int .u32 (mdl (xs.getD j 0) y (g (i + j)) c:Nat))) w bz oz nz f i y xs (j + 1) (mdh (xs.getD j 0) y (g (i + j)) c) (fun k => if k = i + j then mdl (xs.getD j 0) y (g (i + j)) c else g k):=by
 have ew:oz + i + j = oz + (i + j):=by omega
 rw [ew]
 refine ⟨mdh_lt hx hy (h.ok _ hj) h.cle,h.fn.set (i + j) _ hj,?_,?_,?_,?_,h.upd.set _ _ (by omega) (by omega)⟩
 ·intro k hk
  by_cases e:k = i + j
  ·simp only [e,if_true]; exact mdl_lt _ _ _ _
  ·simp only [e,if_false]; exact h.ok k hk
 ·intro k hk
  have:k ≠ i + j:=by omega
  simp only [this,if_false]; exact h.lo k hk
 ·intro k h1 h2
  have:k ≠ i + j:=by omega
  simp only [this,if_false]; exact h.hi k (by omega) h2
 ·simp only [valF]
  rw [valF_congr (g:=fun k => g (i + k)) (fun k hk => by rw [if_neg (by omega)]),if_pos trivial,Nat.pow_succ]
  have e:=md_eq (xs.getD j 0) y (g (i + j)) c
  have:=row_arith h.val e
  rw [h.hi (i + j) (Nat.le_refl _) hj] at this ⊢
  exact this

theorem RowR.drewN {wr w:World} {bz oz nz:Nat} {f:Nat → Nat} {i y:Nat} {xs:List Nat} {j c:Nat} {g:Nat → Nat} (h:RowR wr w bz oz nz f i y xs j c g) (k:Nat):RowR (wr.drewN k) w bz oz nz f i y xs j c g:=⟨h.cle,h.fn,h.ok,h.lo,h.hi,h.val,h.upd.drewN k⟩

structure RowsR (wr w:World) (bz oz nz:Nat) (xs ys:List Nat) (i:Nat) (f:Nat → Nat):Prop where
 fn:Fn wr bz oz nz f
 ok:∀ k,k < nz → f k < 4294967296
 zero:∀ k,i + xs.length ≤ k → k < nz → f k = 0
 val:valF f (i + xs.length) = Go.Proofs.YtjoaijbhpgekoaaGreatDoor.val xs * valF (fun k => ys.getD k 0) i
 upd:Upd bz oz (oz + nz) w wr

theorem RowsR.step {wr w w1:World} {bz oz nz:Nat} {xs ys:List Nat} {i c:Nat} {f g:Nat → Nat} (h:RowsR wr w bz oz nz xs ys i f) (hr:RowR w1 w bz oz nz f i (ys.getD i 0) xs xs.length c g) (hi:i + xs.length < nz) :
  RowsR (w1.setCell ⟨bz,oz + i + xs.length,none⟩ (.int .u32 (c:Nat))) w bz oz nz xs ys (i + 1) (fun k => if k = i + xs.length then c else g k):=by
 have ew:oz + i + xs.length = oz + (i + xs.length):=by omega
 rw [ew]
 refine ⟨hr.fn.set _ _ hi,?_,?_,?_,hr.upd.set _ _ (by omega) (by omega)⟩
 ·intro k hk
  by_cases e:k = i + xs.length
  ·simp only [e,if_true]; exact hr.cle
  ·simp only [e,if_false]; exact hr.ok k hk
 ·intro k h1 h2
  have:k ≠ i + xs.length:=by omega
  simp only [this,if_false]
  rw [hr.hi k (by omega) h2]; exact h.zero k (by omega) h2
 ·have e1:i + 1 + xs.length = i + (xs.length + 1):=by omega
  rw [e1,valF_add]
  simp only [valF]
  rw [if_pos trivial]
  rw [valF_congr (f:=fun k => if k = i + xs.length then c else g k) (g:=f) (fun k hk => by rw [if_neg (by omega)]; exact hr.lo k hk)]
  rw [valF_congr (f:=fun k => if i + k = i + xs.length then c else g (i + k)) (g:=fun k => g (i + k)) (fun k hk => by rw [if_neg (by omega)])]
  rw [hr.val,valF_list]
  have hv:=h.val
  rw [valF_add] at hv
  rw [Nat.mul_add,Nat.mul_add,← Nat.add_assoc,hv]
  have:4294967296 ^ i * (Go.Proofs.YtjoaijbhpgekoaaGreatDoor.val xs * ys.getD i 0) = Go.Proofs.YtjoaijbhpgekoaaGreatDoor.val xs * (4294967296 ^ i * ys.getD i 0):=by rw [Nat.mul_left_comm]
  rw [this]

theorem RowsR.drewN {wr w:World} {bz oz nz:Nat} {xs ys:List Nat} {i:Nat} {f:Nat → Nat} (h:RowsR wr w bz oz nz xs ys i f) (k:Nat):RowsR (wr.drewN k) w bz oz nz xs ys i f:=⟨h.fn,h.ok,h.zero,h.val,h.upd.drewN k⟩

theorem RowsR.begin {wr w:World} {bz oz nz:Nat} {xs ys:List Nat} {i:Nat} {f:Nat → Nat} (h:RowsR wr w bz oz nz xs ys i f) (y:Nat):RowR wr w bz oz nz f i y xs 0 0 f :=
 ⟨by decide,h.fn,h.ok,fun _ _ => rfl,fun _ _ _ => rfl,by simp [valF],h.upd⟩

theorem rows_step {wr w w1:World} {bz oz nz n1:Nat} {xs ys:List Nat} {i c:Nat} {f g:Nat → Nat} (hl:xs.length = n1) (h:RowsR wr w bz oz nz xs ys i f) (hr:RowR w1 w bz oz nz f i (ys.getD i 0) xs n1 c g) (hi:i + n1 < nz) :
  RowsR (w1.setCell ⟨bz,oz + i + n1,none⟩ (.int .u32 (c:Nat))) w bz oz nz xs ys (i + 1) (fun k => if k = i + n1 then c else g k):=by
 subst hl
 exact h.step hr hi

set_option maxHeartbeats 4000000 in
theorem rows_some (bz oz nz cz b1 o1 n1 c1 b2 o2 n2 c2:Nat) (xs ys:List Nat) (w:World) (hb1:b1 ≠ bz ∨ o1 + xs.length ≤ oz ∨ oz + nz ≤ o1) (hb2:b2 ≠ bz ∨ o2 + ys.length ≤ oz ∨ oz + nz ≤ o2) (hl1:xs.length = n1) (hl2:ys.length = n2) (hnz:n1 + n2 = nz) (hcz:nz ≤ cz) (hm:cz ≤ maxLen) (ox:Ok xs) (oy:Ok ys)
  (hz:Fn w bz oz nz (fun _ => 0)) (hx:Cells w b1 o1 xs) (hy:Cells w b2 o2 ys) :
  Calls Tryz.prog 109 #[.slice (some ⟨bz,oz,none⟩) nz cz,.slice (some ⟨b1,o1,none⟩) n1 c1,.slice (some ⟨b2,o2,none⟩) n2 c2] w fun e w' => e = .returned (.tuple #[]) ∧ ∃ f',Fn w' bz oz nz f' ∧ (∀ i,i < nz → f' i < 4294967296) ∧
   valF f' nz = val xs * val ys ∧ Upd bz oz (oz + nz) w w':=by
 unfold maxLen at hm
 have HL1:=Hj hl1
 have HL2:=Hj hl2
 have HNZ:=Hj hnz
 have HB1:=Hj hb1
 have HB2:=Hj hb2
 have hnz1:n1 + n2 ≤ nz:=by omega
 have hR0:RowsR w w bz oz nz xs ys 0 (fun _ => 0):=⟨hz,fun _ _ => by decide,fun _ _ _ => rfl,by simp [valF,valF_zero],Upd.refl _ _ _ _⟩
 clear hl1 hl2 hnz hb1 hb2
 go_enter Tryz.func109,Tryz.ntmps109
 go_wp2
 go_loopw [13] (fun i wr => ∃ k:Nat,∃ f:Nat → Nat,k ≤ n2 ∧ i = .int .i64 k ∧ RowsR wr w bz oz nz xs ys k f) (fun i _ => n2 - (intOf i).toNat)
 case atStart => exact ⟨0,_,Nat.zero_le _,rfl,hR0⟩
 case round =>
  clear hR0 hz
  obtain ⟨k,f,hk,rfl,hR⟩:=hrel
  by_cases hlt:k < n2
  ·have hlt':(k:Int) < (n2:Int):=by omega
   have hs1:(k:Int) + (n1:Int) + 1 ≤ (cz:Int):=by omega
   have hY:=oy.getD k
   obtain ⟨wo,rfl⟩:∃ wo:World,wo = wr:=⟨_,rfl⟩
   have HR:=Hj hR
   clear hR
   have hrl:k + n1 + 1 - k = n1 + 1:=by omega
   go_wp2_with fail
   go_loopw [8,31] (fun cv jv wr => ∃ j c:Nat,∃ g:Nat → Nat,j ≤ n1 ∧ jv = .int .i64 j ∧ cv = .int .u64 (c:Nat) ∧ RowR wr w bz oz nz f k (ys.getD k 0) xs j c g) (fun _ jv _ => n1 - (intOf jv).toNat)
   case atStart => exact ⟨0,0,f,Nat.zero_le _,rfl,rfl,(Uh HR).begin _⟩
   case round =>
    obtain ⟨j,c,g,hj,rfl,rfl,hQ⟩:=hrel
    have hc0:=hQ.cle
    by_cases hjl:j < n1
    ·have hjl':(j:Int) < (n1:Int):=by omega
     have hjl2:(j:Int) < (n1:Int) + 1:=by omega
     have g1:=hQ.upd.cells hx (Uh HB1) j (by rw [Uh HL1]; exact hjl)
     have g2:=hQ.upd.cells hy (Uh HB2) k (by rw [Uh HL2]; exact hlt)
     have g3:=(hQ.fn (k + j) (by omega)).1
     have g4:=(hQ.fn (k + j) (by omega)).2
     rw [← Nat.add_assoc] at g3 g4
     have bx:=ox.getD j
     have br:=hQ.ok (k + j) (by omega)
     have HS:=Hj (hQ.step (by omega) bx hY)
     have mb:((xs.getD j 0:Nat):Int) * ((ys.getD k 0:Nat):Int) ≤ 18446744065119617025:=by
      have:=mul_bound bx hY
      rw [← Int.natCast_mul]; omega
     have mb0:0 ≤ ((xs.getD j 0:Nat):Int) * ((ys.getD k 0:Nat):Int):=Int.mul_nonneg (by omega) (by omega)
     have e1:=mdl_int (xs.getD j 0) (ys.getD k 0) (g (k + j)) c
     have e2:=mdh_int (xs.getD j 0) (ys.getD k 0) (g (k + j)) c
     generalize xs.getD j 0 = x at g1 bx HS mb mb0 e1 e2
     generalize hyy:ys.getD k 0 = y at g2 HS mb mb0 e1 e2 hY
     have HY:=Hj hyy
     generalize g (k + j) = r at g3 br HS e1 e2
     clear hQ hyy hx hy
     go_wp2_with fail
     go_quiet (fail)
     go_wp2
     exact ⟨⟨j + 1,_,_,by omega,by go_num,rfl,(Uh HS).drewN _⟩,by simp [intOf]; omega⟩
    ·have hjn:j = n1:=by omega
     subst hjn
     have hjl':¬ (j:Int) < (j:Int):=by omega
     have hjl3:(j:Int) < (j:Int) + 1:=by omega
     have g3:=(hQ.fn (k + j) (by omega)).1
     have g4:=(hQ.fn (k + j) (by omega)).2
     rw [← Nat.add_assoc] at g3 g4
     have HS:=rows_step (Uh HL1) (Uh HR) hQ (by omega)
     have HS':=Hj HS
     generalize ((g (k + j):Nat):Int) = r at g3
     clear hQ HS hx hy HR
     go_wp2
     exact ⟨⟨k + 1,_,by omega,by go_num,Uh HS'⟩,by simp [intOf]; omega⟩
  ·have hkn:k = n2:=by omega
   have HV:=Hj (show valF f nz = val xs * val ys from by
    have hv:=hR.val
    rw [hkn,Uh HL1,Nat.add_comm n2 n1,Uh HNZ] at hv
    rw [hv,← Uh HL2,valF_list])
   have HR:=Hj hR
   clear hR hx hy hkn
   go_wp2
   go_end0
   exact ⟨rfl,f,(Uh HR).fn,(Uh HR).ok,Uh HV,(Uh HR).upd⟩
end Go.Proofs.YtjoaijbhpgekoaaGreatDoor
