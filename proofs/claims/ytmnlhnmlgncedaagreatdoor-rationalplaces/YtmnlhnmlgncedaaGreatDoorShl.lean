/- NBits -/
import Derived.Test.YtmnlhnmlgncedaaGreatDoorNMul
import Derived.Test.YtmnlhnmlgncedaaGreatDoorMul
namespace Go.Proofs.YtmnlhnmlgncedaaGreatDoor
open Go.RowKit Go.Deep
set_option linter.unusedVariables false
theorem bl_lt:∀ (n x:Nat),x ≤ n → x < 18446744073709551616 → x < 2 ^ Lib.bitLen x
 | 0,x,h,hx => by
  have e:x = 0:=by omega
  subst e
  decide +kernel
 | n + 1,x,h,hx => by
  by_cases h0:x = 0
  ·subst h0; decide +kernel
  ·have ih:=bl_lt n (x / 2) (by omega) (by omega)
   rw [Lib.bitLen_half x h0 hx,Nat.add_comm 1,Nat.pow_succ]
   omega

theorem take_lt_pow {xs:List Nat} (ox:Ok xs) (t:Nat) (h:t ≤ xs.length):val (xs.take t) < 4294967296 ^ t:=by
 have:=val_lt (ox.take t)
 rwa [List.length_take,Nat.min_eq_left h] at this

def bitsN (xs:List Nat):Nat:=if xs = [] then 0 else bitsL xs

theorem val_lt_bits {xs:List Nat} (ox:Ok xs):val xs < 2 ^ bitsN xs:=by
 unfold bitsN
 by_cases h0:xs = []
 ·subst h0; simp [val]
 ·rw [if_neg h0]
  have hp:0 < xs.length:=List.length_pos_iff.2 h0
  have hb:=ox.getD (xs.length - 1)
  have h2:=bl_lt _ _ (Nat.le_refl (xs.getD (xs.length - 1) 0)) (by omega)
  rw [val_split xs (xs.length - 1) (by omega),drop_cons (by omega)]
  have e:xs.drop (xs.length - 1 + 1) = []:=List.drop_eq_nil_of_le (by omega)
  rw [e]
  simp only [val]
  unfold bitsL
  rw [Nat.pow_add,Nat.mul_comm _ 32,← pow_limb,Nat.mul_zero,Nat.add_zero]
  have h1:=take_lt_pow ox (xs.length - 1) (by omega)
  have h3:4294967296 ^ (xs.length - 1) * (xs.getD (xs.length - 1) 0 + 1) ≤ 4294967296 ^ (xs.length - 1) * 2 ^ Lib.bitLen (xs.getD (xs.length - 1) 0):=Nat.mul_le_mul_left _ h2
  rw [Nat.mul_add,Nat.mul_one] at h3
  omega

theorem bitsN_le {xs:List Nat} (ox:Ok xs) (h:xs.length ≤ 2048):bitsN xs ≤ 100000:=by
 unfold bitsN
 split
 ·omega
 ·exact bitsL_le ox h

theorem bitsN_mono {xs ys:List Nat} (ox:Ok xs) (oy:Ok ys) (nx:Norm xs) (h:val xs ≤ val ys):bitsN xs ≤ bitsN ys:=by
 have h2:=val_lt_bits oy
 by_cases h0:xs = []
 ·simp [bitsN,h0]
 ·have h1:=val_ge_bits ox nx h0
  have h3:2 ^ (bitsL xs - 1) < 2 ^ bitsN ys:=by omega
  have h4:bitsL xs - 1 < bitsN ys:=(Nat.pow_lt_pow_iff_right (by decide)).1 h3
  have e:bitsN xs = bitsL xs:=by simp [bitsN,h0]
  omega

set_option maxHeartbeats 800000 in
theorem bitLen_nil (a:Option Addr) (c:Nat) (w:World) :
  Calls Tryz.prog 105 #[.slice a 0 c] w fun e w' => e = .returned (.int .i64 0) ∧ w' = w:=by
 go_enter Tryz.func105,Tryz.ntmps105
 go_wp2
 go_ret
 exact ⟨rfl,rfl⟩

theorem bitLen_all (a:Option Addr) (n c:Nat) (xs:List Nat) (w:World) (h:Sl w a n c xs) (ok:Ok xs) (hn:n ≤ 1000000000000) :
  Calls Tryz.prog 105 #[.slice a n c] w fun e w' => e = .returned (.int .i64 (bitsN xs:Nat)) ∧ w' = w:=by
 by_cases h0:xs = []
 ·have hl:=h.len
  subst h0
  simp at hl
  subst hl
  have:(bitsN []:Nat) = 0:=by simp [bitsN]
  rw [this]
  exact bitLen_nil a c w
 ·have e:bitsN xs = bitsL xs:=by simp [bitsN,h0]
  rw [e]
  exact bitLen_any a n c xs w h ok h0 hn

set_option maxHeartbeats 800000 in
theorem nbits_any (a:Option Addr) (n c:Nat) (xs:List Nat) (w:World) (h:Sl w a n c xs) (ok:Ok xs) (m:MayL xs = true) :
  Calls Tryz.prog 94 #[.slice a n c] w fun e w' => e = .returned (.int .i64 (bitsN xs:Nat)) ∧ w' = w:=by
 have K1:=may_any a n c xs w h
 rw [m] at K1
 have K1':=Hj K1
 have K2:=Hj (bitLen_all a n c xs w h ok (by have:=MayL.len m; have:=h.len; omega))
 generalize bitsN xs = u at *
 clear K1 h ok m
 go_enter Tryz.func94,Tryz.ntmps94
 go_wp2_with fail
 refine (Uh K1').mono ?_
 rintro e w' ⟨rfl,hw⟩
 obtain rfl:=hw.symm
 go_wp2_with fail
 refine (Uh K2).mono ?_
 rintro e w' ⟨rfl,hw⟩
 obtain rfl:=hw.symm
 go_wp2
 go_ret
 exact ⟨rfl,rfl⟩
def sv (x s:Nat):Nat:=x * 2 ^ s
def slo (x s:Nat):Nat:=x * 2 ^ s % 4294967296
def shi (x s:Nat):Nat:=x * 2 ^ s / 4294967296

theorem pow_s {s:Nat} (h:s < 32):1 ≤ 2 ^ s ∧ 2 ^ s ≤ 2147483648:=by
 refine ⟨Nat.pow_pos (by decide),?_⟩
 have:2 ^ s ≤ 2 ^ 31:=Nat.pow_le_pow_right (by decide) (by omega)
 simpa using this

theorem pow_split {s:Nat} (h:s < 32):2 ^ s * 2 ^ (32 - s) = 4294967296:=by
 rw [← Nat.pow_add,show s + (32 - s) = 32 from by omega]

theorem sv_lt {x s:Nat} (hx:x < 4294967296) (h:s < 32):sv x s < 9223372036854775808:=by
 obtain ⟨h1,h2⟩:=pow_s h
 have:x * 2 ^ s ≤ 4294967295 * 2147483648:=Nat.mul_le_mul (by omega) h2
 unfold sv
 omega

theorem sv_int {x s:Nat} (hx:x < 4294967296) (h:s < 32):IntKind.u64.wrap ((x:Int) * 2 ^ s) = ((sv x s:Nat):Int):=by
 have hb:=sv_lt hx h
 have e:(x:Int) * 2 ^ s = ((sv x s:Nat):Int):=by unfold sv; rw [Int.natCast_mul,Int.natCast_pow]; rfl
 rw [e,IntKind.wrap_u64]
 omega

theorem slo_int (x s:Nat):((sv x s:Nat):Int) % 4294967296 = ((slo x s:Nat):Int):=by unfold slo sv; omega
theorem shi_int (x s:Nat):((sv x s:Nat):Int) / 4294967296 = ((shi x s:Nat):Int):=by unfold shi sv; omega
theorem sh_eq (x s:Nat):slo x s + 4294967296 * shi x s = x * 2 ^ s:=by unfold slo shi; exact Nat.mod_add_div _ _
theorem slo_lt (x s:Nat):slo x s < 4294967296:=by unfold slo; exact Nat.mod_lt _ (by decide)
theorem shi_lt {x s:Nat} (hx:x < 4294967296) (h:s < 32):shi x s < 2 ^ s:=by
 unfold shi
 obtain ⟨h1,h2⟩:=pow_s h
 rw [Nat.div_lt_iff_lt_mul (by decide),Nat.mul_comm]
 exact Nat.mul_lt_mul_of_pos_left hx (by omega)

theorem slo_mul {x s:Nat} (h:s < 32):slo x s = 2 ^ s * (x % 2 ^ (32 - s)):=by
 unfold slo
 rw [← pow_split h,Nat.mul_comm x,Nat.mul_mod_mul_left]

theorem or_slo {o x s:Nat} (h:s < 32) (ho:o < 2 ^ s):o ||| slo x s = o + slo x s:=by
 rw [slo_mul h]
 have:=Nat.shiftLeft_add_eq_or_of_lt (i:=s) (b:=o) ho (x % 2 ^ (32 - s))
 rw [Nat.shiftLeft_eq,Nat.mul_comm] at this
 rw [Nat.or_comm,← this,Nat.add_comm]

theorem or_slo_lt {o x s:Nat} (h:s < 32) (ho:o < 2 ^ s):o + slo x s < 4294967296:=by
 rw [← or_slo h ho]
 have:(o ||| slo x s) < 2 ^ 32:=Nat.or_lt_two_pow (by have:=(pow_s h).2; omega) (slo_lt x s)
 exact this

def orv (o x s:Nat):Nat:=o + slo x s
theorem or_int {o x s:Nat} (h:s < 32) (ho:o < 2 ^ s):bits .or .u32 (o:Int) ((slo x s:Nat):Int) = ((orv o x s:Nat):Int):=by
 rw [u32_or_nat _ _ (by have:=(pow_s h).2; omega) (slo_lt x s),or_slo h ho]
 rfl

structure ShR (wr w:World) (m l s:Nat) (xs:List Nat) (i:Nat) (g:Nat → Nat):Prop where
 fn:Fn wr w.heap.size 0 m g
 ok:∀ k,k < m → g k < 4294967296
 top:g (l + i) < 2 ^ s
 zero:∀ k,l + i < k → g k = 0
 val:valF g (l + i + 1) = valF (fun k => xs.getD k 0) i * 2 ^ s * 4294967296 ^ l
 bel:Below w.heap.size w wr

theorem ShR.step {wr w:World} {m l s:Nat} {xs:List Nat} {i:Nat} {g:Nat → Nat} (h:ShR wr w m l s xs i g) (hs:s < 32) (hm:l + i + 1 < m) (ox:Ok xs) :
  ShR ((wr.setCell ⟨w.heap.size,l + i,none⟩ (.int .u32 (orv (g (l + i)) (xs.getD i 0) s:Nat))).setCell ⟨w.heap.size,l + i + 1,none⟩ (.int .u32 (shi (xs.getD i 0) s:Nat))) w m l s xs (i + 1)
   (fun k => if k = l + i + 1 then shi (xs.getD i 0) s else if k = l + i then orv (g (l + i)) (xs.getD i 0) s else g k):=by
 have f1:=h.fn.set (l + i) (orv (g (l + i)) (xs.getD i 0) s) (by omega)
 have f2:=f1.set (l + i + 1) (shi (xs.getD i 0) s) hm
 simp only [Nat.zero_add] at f2
 have hh:=shi_lt (ox.getD i) hs
 have hp:=pow_s hs
 refine ⟨f2,?_,?_,?_,?_,(h.bel.setCell (Nat.le_refl _) _).setCell (Nat.le_refl _) _⟩
 ·intro k hk
  by_cases e:k = l + i + 1
  ·simp only [e,if_true]; omega
  ·by_cases e2:k = l + i
   ·simp only [e2,show ¬ l + i = l + i + 1 from by omega,if_true,if_false]; exact or_slo_lt hs h.top
   ·simp only [e,e2,if_false]; exact h.ok k hk
 ·simp only [show l + (i + 1) = l + i + 1 from by omega,if_true]; exact hh
 ·intro k hk
  simp only [show ¬ k = l + i + 1 from by omega,show ¬ k = l + i from by omega,if_false]
  exact h.zero k (by omega)
 ·have e1:l + (i + 1) + 1 = l + i + 1 + 1:=by omega
  rw [e1]
  simp only [valF]
  simp only [if_true,show ¬ l + i = l + i + 1 from by omega,if_false]
  rw [valF_congr (g:=g) (fun k hk => by rw [if_neg (by omega),if_neg (by omega)])]
  have hv:=h.val
  simp only [valF] at hv
  have e:=sh_eq (xs.getD i 0) s
  have e2:orv (g (l + i)) (xs.getD i 0) s = g (l + i) + slo (xs.getD i 0) s:=rfl
  rw [e2,Nat.mul_add,Nat.pow_succ,Nat.add_mul,Nat.add_mul,← hv]
  have e3:4294967296 ^ (l + i) * slo (xs.getD i 0) s + 4294967296 ^ (l + i) * 4294967296 * shi (xs.getD i 0) s = 4294967296 ^ i * xs.getD i 0 * 2 ^ s * 4294967296 ^ l:=by
   rw [Nat.mul_assoc,← Nat.mul_add,e,Nat.pow_add]
   rw [Nat.mul_comm (4294967296 ^ l),Nat.mul_assoc,Nat.mul_comm (4294967296 ^ l),← Nat.mul_assoc,← Nat.mul_assoc]
  generalize 4294967296 ^ (l + i) * slo (xs.getD i 0) s = t1 at *
  generalize 4294967296 ^ (l + i) * 4294967296 * shi (xs.getD i 0) s = t2 at *
  generalize 4294967296 ^ i * xs.getD i 0 * 2 ^ s * 4294967296 ^ l = t3 at *
  generalize 4294967296 ^ (l + i) * g (l + i) = t4 at *
  omega

theorem ShR.begin (w:World) (m l s:Nat) (xs:List Nat) (hs:s < 32):ShR (w.alloc (.cells (madeCells #[.int .u32 0] m) 84)) w m l s xs 0 (fun _ => 0) :=
 ⟨Fn.made w m _,fun _ _ => by decide,(pow_s hs).1,fun _ _ => rfl,by rw [valF_zero]; simp [valF],bAl⟩

theorem sh_total {v k l s:Nat} (hl:k / 32 = l) (hs:k % 32 = s):v * 2 ^ s * 4294967296 ^ l = v * 2 ^ k:=by
 have e:k = s + 32 * l:=by omega
 have p:(4294967296:Nat) ^ l = 2 ^ (32 * l):=by rw [Nat.pow_mul]
 rw [e,Nat.pow_add,p,Nat.mul_assoc]
theorem valF_ge (xs:List Nat) (n:Nat) (h:xs.length ≤ n):valF (fun i => xs.getD i 0) n = val xs:=by
 rw [← valF_pad xs n h]
 apply valF_congr
 intro i hi
 by_cases e:i < xs.length
 ·simp [e]
 ·rw [if_neg e]; exact getD_ge (by omega)

theorem one_int {k:IntKind} {x:Int}:∀ u ∈ [Value.int k x],u.oneCell' = true:=by
 intro u hu; simp at hu; subst hu; rfl

theorem own_sl {w:World} {base k:Nat} {v:Value} {zs:List Nat} (h:w.ownsRow base 84 1 v k (vals zs)):∃ a c,v = .slice a k c ∧ Sl w a k c zs ∧ NewAt base a:=by
 have hl:zs.length = k:=by simpa [vals] using h.1
 rcases h.2 with ⟨e,h0⟩ | ⟨g,cap,cur,e,hb,h5,h6,h7,h8,h9⟩
 ·subst e h0
  have:zs = []:=List.eq_nil_of_length_eq_zero hl
  subst this
  exact ⟨none,0,rfl,⟨rfl,Nat.le_refl _,Nat.zero_le _,.inl rfl⟩,fun x hx => by cases hx⟩
 ·subst e
  exact ⟨_,_,rfl,sl_of_own h,fun x hx => by cases hx; exact hb⟩
theorem make_nl (n l:Nat) (h:n + l + 1 ≤ 70368744177600) (w:World):(Instr.makeSlice 22 (.int .i64 ((n:Int) + (l:Int) + 1)) (.int .i64 ((n:Int) + (l:Int) + 1))).run Tryz.prog w = .ok (.slice (some ⟨w.heap.size,0,none⟩) (n + l + 1) (n + l + 1)) (w.alloc (.cells (madeCells #[.int .u32 0] (n + l + 1)) 84)):=by
 have:=make_len (n + l + 1) h w
 rw [show ((n + l + 1:Nat):Int) = (n:Int) + (l:Int) + 1 from by omega] at this
 exact this

set_option maxHeartbeats 2000000 in
theorem shl_some (b off n c:Nat) (xs:List Nat) (w:World) (k l s:Nat) (hl:xs.length = n) (hc:Cells w b off xs) (ox:Ok xs) (hkl:(k:Int) / 32 = (l:Int)) (hks:(k:Int) % 32 = (s:Int)) (hs32:s < 32) (hk0:k ≤ 65536) (hl0:l ≤ 2048) (hn:0 < n) (hn2:n ≤ 2048) :
  Calls Tryz.prog 93 #[.slice (some ⟨b,off,none⟩) n c,.int .i64 (k:Nat)] w fun e w' => NewRep w w' (val xs * 2 ^ k) e:=by
 have hmk:=fun w => make_nl n l (by omega) w
 have hne:((n:Int) == 0) = false:=by simp; omega
 have HL:=Hj hl
 have HT:=Hj (sh_total (v:=val xs) (k:=k) (l:=l) (s:=s) (by omega) (by omega))
 clear hl
 go_enter Tryz.func93,Tryz.ntmps93
 go_wp2_with fail
 rw [hks]
 clear hkl hks hk0
 go_loopw [25] (fun i wr => ∃ j:Nat,∃ g:Nat → Nat,j ≤ n ∧ i = .int .i64 j ∧ ShR wr w (n + l + 1) l s xs j g) (fun i _ => n - (intOf i).toNat)
 case atStart => exact ⟨0,_,Nat.zero_le _,rfl,ShR.begin w (n + l + 1) l s xs hs32⟩
 case round =>
  obtain ⟨j,g,hj,rfl,hR⟩:=hrel
  by_cases hlt:j < n
  ·have hlt':(j:Int) < (n:Int):=by omega
   have hb1:(l:Int) + (j:Int) < (n:Int) + (l:Int) + 1:=by omega
   have hb2:(l:Int) + (j:Int) + 1 < (n:Int) + (l:Int) + 1:=by omega
   have g0:=hc j (by rw [Uh HL]; exact hlt)
   have g1:wr.cell? ⟨b,off + j,none⟩ = _:=(ck hR.bel g0)
   have g2:=hR.fn (l + j) (by omega)
   have g3:=hR.fn (l + j + 1) (by omega)
   simp only [Nat.zero_add] at g2 g3
   have c1:=g2.1
   have c2:=g2.2
   have c3:=g3.1
   have c4:=g3.2
   have bx:=ox.getD j
   have e0:=sv_int (x:=xs.getD j 0) (s:=s) bx hs32
   have e1:=slo_int (xs.getD j 0) s
   have e2:=shi_int (xs.getD j 0) s
   have e3:=or_int (x:=xs.getD j 0) hs32 hR.top
   have b1:=sv_lt (x:=xs.getD j 0) bx hs32
   have b2:shi (xs.getD j 0) s < 4294967296:=by have:=shi_lt (x:=xs.getD j 0) bx hs32; have:=(pow_s hs32).2; omega
   have HS:=Hj (hR.step hs32 (by omega) ox)
   generalize xs.getD j 0 = x at *
   generalize g (l + j) = o at *
   generalize g (l + j + 1) = o2 at *
   clear hR g0 g2 g3
   go_wp2
   exact ⟨⟨j + 1,_,by omega,by go_num,Uh HS⟩,by simp [intOf]; omega⟩
  ·have hjn:j = n:=by omega
   subst hjn
   have hv:valF g (j + l + 1) = val xs * 2 ^ k:=by
    have:=hR.val
    rw [← Uh HL,valF_list,Uh HT,Uh HL,Nat.add_comm l j] at this
    exact this
   have KT:=trim_any _ (j + l + 1) (j + l + 1) _ wr (hR.fn.sl (Nat.le_refl _) (by unfold maxLen; omega)) (lst_ok hR.ok)
   rw [lst_val,hv] at KT
   have KT':=Hj KT
   have HB:=Hj hR.bel
   clear hR KT hv
   go_wp2_with fail
   refine (Uh KT').mono ?_
   rintro e w3 ⟨a',m,zs,rfl,hs,hr,ha,rfl⟩
   go_wp2
   go_ret
   refine ⟨a',m,zs,rfl,hs,hr,?_,Uh HB⟩
   intro x hx
   rcases ha with rfl | rfl
   ·cases hx; exact Nat.le_refl _
   ·cases hx

set_option maxHeartbeats 400000 in
theorem shl_nil (a:Option Addr) (c:Nat) (k:Int) (w:World) :
  Calls Tryz.prog 93 #[.slice a 0 c,.int .i64 k] w fun e w' => e = .returned (.slice none 0 0) ∧ w' = w:=by
 go_enter Tryz.func93,Tryz.ntmps93
 go_wp2
 go_ret
 exact ⟨rfl,rfl⟩

theorem shl_any (a:Option Addr) (n c:Nat) (xs:List Nat) (w:World) (k:Nat) (h:Sl w a n c xs) (ox:Ok xs) (hn:n ≤ 2048) (hk:k ≤ 65536) :
  Calls Tryz.prog 93 #[.slice a n c,.int .i64 (k:Nat)] w fun e w' => NewRep w w' (val xs * 2 ^ k) e:=by
 by_cases h0:xs = []
 ·have hl:=h.len
  subst h0
  simp at hl
  subst hl
  refine (shl_nil a c k w).mono ?_
  rintro e w' ⟨rfl,rfl⟩
  exact ⟨none,0,[],rfl,sl_nil _,⟨Ok.nil,.inl rfl,by simp [val]⟩,newAt_nil _,Below.refl _ _⟩
 ·have hp:0 < xs.length:=List.length_pos_iff.2 h0
  rcases h.cells with e | ⟨b,off,rfl,hc⟩
  ·exact absurd e h0
  ·exact shl_some b off n c xs w k (k / 32) (k % 32) h.len hc ox (by omega) (by omega) (by omega) hk (by omega) (by have:=h.len; omega) hn

def chk (xs:List Nat) (k:Int):Int:=if MayL xs then (if 0 ≤ k ∧ k ≤ 65536 then 0 else 1) else 20

set_option maxHeartbeats 800000 in
theorem check_any (a:Option Addr) (n c:Nat) (xs:List Nat) (w:World) (k:Int) (h:Sl w a n c xs) :
  Calls Tryz.prog 91 #[.slice a n c,.int .i64 k] w fun e w' => e = .returned (.int .i64 (chk xs k)) ∧ w' = w:=by
 have K1:=may_any a n c xs w h
 by_cases m1:MayL xs = true
 ·rw [m1] at K1
  have K1':=Hj K1
  by_cases hlo:k < 0
  ·have HC:=Hj (show chk xs k = 1 from by unfold chk; rw [m1]; simp; omega)
   clear K1 m1 h
   go_enter Tryz.func91,Tryz.ntmps91
   go_wp2_with fail
   refine (Uh K1').mono ?_
   rintro e w' ⟨rfl,hw⟩
   obtain rfl:=hw.symm
   go_wp2
   go_ret
   exact ⟨by rw [Uh HC]; rfl,rfl⟩
  ·by_cases hhi:65536 < k
   ·have HC:=Hj (show chk xs k = 1 from by unfold chk; rw [m1]; simp; omega)
    clear K1 m1 h
    go_enter Tryz.func91,Tryz.ntmps91
    go_wp2_with fail
    refine (Uh K1').mono ?_
    rintro e w' ⟨rfl,hw⟩
    obtain rfl:=hw.symm
    go_wp2
    go_ret
    exact ⟨by rw [Uh HC]; rfl,rfl⟩
   ·have HC:=Hj (show chk xs k = 0 from by unfold chk; rw [m1]; simp; omega)
    clear K1 m1 h
    go_enter Tryz.func91,Tryz.ntmps91
    go_wp2_with fail
    refine (Uh K1').mono ?_
    rintro e w' ⟨rfl,hw⟩
    obtain rfl:=hw.symm
    go_wp2
    go_ret
    exact ⟨by rw [Uh HC]; rfl,rfl⟩
 ·have m1':MayL xs = false:=by simpa using m1
  rw [m1'] at K1
  have K1':=Hj K1
  have HC:=Hj (show chk xs k = 20 from by unfold chk; rw [m1']; simp)
  clear K1 m1 m1' h
  go_enter Tryz.func91,Tryz.ntmps91
  go_wp2_with fail
  refine (Uh K1').mono ?_
  rintro e w' ⟨rfl,hw⟩
  obtain rfl:=hw.symm
  go_wp2
  go_ret
  exact ⟨by rw [Uh HC]; rfl,rfl⟩

def shlL (xs:List Nat) (k:Int):List Nat × Int:=if MayL xs then (if 0 ≤ k ∧ k ≤ 65536 then fitL (val xs * 2 ^ k.toNat) else ([],1)) else ([],20)
def shrL (xs:List Nat) (k:Int):List Nat × Int:=if MayL xs then (if 0 ≤ k ∧ k ≤ 65536 then (limbs (val xs / 2 ^ k.toNat),0) else ([],1)) else ([],20)

theorem shlL_bad {xs:List Nat} {k:Int} (h:chk xs k ≠ 0):shlL xs k = ([],chk xs k):=by
 unfold shlL chk at *
 cases hm:MayL xs <;> simp [hm] at h ⊢
 by_cases hk:0 ≤ k ∧ k ≤ 65536
 ·have:=h hk.1
  omega
 ·simp [hk]
theorem shrL_bad {xs:List Nat} {k:Int} (h:chk xs k ≠ 0):shrL xs k = ([],chk xs k):=by
 unfold shrL chk at *
 cases hm:MayL xs <;> simp [hm] at h ⊢
 by_cases hk:0 ≤ k ∧ k ≤ 65536
 ·have:=h hk.1
  omega
 ·simp [hk]
theorem chk_ok {xs:List Nat} {k:Int} (h:chk xs k = 0):MayL xs = true ∧ 0 ≤ k ∧ k ≤ 65536:=by
 unfold chk at h
 cases hm:MayL xs
 ·simp [hm] at h
 ·by_cases hk:0 ≤ k ∧ k ≤ 65536
  ·exact ⟨rfl,hk⟩
  ·simp [hm,hk] at h

set_option maxHeartbeats 800000 in
theorem nshl_any (a:Option Addr) (n c:Nat) (xs:List Nat) (w:World) (k:Int) (h:Sl w a n c xs) (ox:Ok xs) :
  Calls Tryz.prog 46 #[.slice a n c,.int .i64 k] w fun e w' => Res2 w w' (shlL xs k) e:=by
 have KC:=check_any a n c xs w k h
 by_cases hc:chk xs k = 0
 ·obtain ⟨m1,k0,k1⟩:=chk_ok hc
  rw [hc] at KC
  have KC':=Hj KC
  obtain ⟨k,rfl⟩:=Int.eq_ofNat_of_zero_le k0
  have HC:=Hj (show shlL xs k = fitL (val xs * 2 ^ k) from by unfold shlL; rw [m1]; simp; omega)
  have KS:=Hj (shl_any a n c xs w k h ox (by have:=h.len; have:=MayL.len m1; omega) (by omega))
  clear KC hc m1 h ox
  go_enter Tryz.func46,Tryz.ntmps46
  go_wp2_with fail
  refine (Uh KC').mono ?_
  rintro e w' ⟨rfl,hw⟩
  obtain rfl:=hw.symm
  go_wp2_with fail
  refine (Uh KS).mono ?_
  rintro e w1 ⟨a',m,zs,rfl,hs,hr,ha,hb⟩
  have K4:=Hj (fit_any a' m m _ zs w1 hs hr)
  have HA:=Hj ha
  have HB:=Hj hb
  clear hs hr ha hb KS
  go_wp2_with fail
  refine (Uh K4).mono ?_
  rintro e w2 ⟨a2',m2,c2',rfl,hs2,ha2,rfl⟩
  go_wp2
  go_ret2
  rw [Uh HC]
  refine ⟨a2',m2,c2',rfl,hs2,?_,Uh HB⟩
  rcases ha2 with rfl | rfl
  ·exact Uh HA
  ·exact newAt_nil _
 ·have hb:(chk xs k != 0) = true:=by rw [bne_iff_ne]; exact hc
  have HC:=Hj (shlL_bad hc)
  have KC':=Hj KC
  generalize chk xs k = cc at *
  clear KC hc h ox
  go_enter Tryz.func46,Tryz.ntmps46
  go_wp2_with fail
  refine (Uh KC').mono ?_
  rintro e w' ⟨rfl,hw⟩
  obtain rfl:=hw.symm
  go_wp2
  go_ret2
  rw [Uh HC]
  exact ⟨none,0,0,rfl,sl_nil _,newAt_nil _,Below.refl _ _⟩
end Go.Proofs.YtmnlhnmlgncedaaGreatDoor
