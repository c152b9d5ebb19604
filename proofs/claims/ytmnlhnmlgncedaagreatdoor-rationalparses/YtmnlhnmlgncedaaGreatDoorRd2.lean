/- Rp4 -/
import Derived.Test.YtmnlhnmlgncedaaGreatDoorRq0
import Derived.Test.YtmnlhnmlgncedaaGreatDoorPa2
import Derived.Lib.Strings
import Derived.Deep.RegionHeld3
import Derived.Test.YtmnlhnmlgncedaaGreatDoorWr4
import Derived.Test.YtmnlhnmlgncedaaGreatDoorDv2
import Derived.Test.YtmnlhnmlgncedaaGreatDoorWr2
namespace Go.Proofs.YtmnlhnmlgncedaaGreatDoor
open Go.RowKit Go.Deep
set_option linter.unusedVariables false
set_option maxHeartbeats 4000000 in
theorem slHasPrefix_any (s:ByteArray) (b:Bool) (w:World) (hb:(decide (1 ≤ s.size) && ((s.extract 0 1).toList == [45])) = b) :
  Calls Tryz.prog 125 #[.string s,.string ⟨#[45]⟩] w fun e w' => e = .returned (.bool b) ∧ w' = w:=by
 by_cases h:1 ≤ s.size
 ·have h':(1:Int) ≤ (s.size:Int):=by omega
  have hc:((s.extract 0 1).toList == [45]) = b:=by
   rw [← hb]
   simp [h]
  clear hb
  generalize hx:s.extract 0 1 = x at *
  go_enter Tryz.func125,Tryz.ntmps125
  go_wp2_with fail
  go_ret
  exact ⟨rfl,rfl⟩
 ·have h':¬ (1:Int) ≤ (s.size:Int):=by omega
  obtain rfl:b = false:=by rw [← hb]; simp [h]
  clear hb
  go_enter Tryz.func125,Tryz.ntmps125
  go_wp2_with fail
  go_ret
  exact ⟨rfl,rfl⟩
set_option maxHeartbeats 4000000 in
theorem hasPrefix_any (s:ByteArray) (b:Bool) (w:World) (hb:(decide (1 ≤ s.size) && ((s.extract 0 1).toList == [45])) = b) :
  Calls Tryz.prog 73 #[.string s,.string ⟨#[45]⟩] w fun e w' => e = .returned (.bool b) ∧ w' = w:=by
 have HK:=Hj (slHasPrefix_any s b w hb)
 clear hb
 go_enter Tryz.func73,Tryz.ntmps73
 go_wp2_with fail
 refine (Uh HK).mono ?_
 rintro _ _ ⟨rfl,hw⟩
 obtain rfl:=hw.symm
 clear hw
 go_wp2_with fail
 go_ret
 exact ⟨rfl,rfl⟩
set_option maxHeartbeats 4000000 in
theorem trimPrefix_yes (s:ByteArray) (w:World) (hs:s.size ≤ 65536) (h1:1 ≤ s.size) (hc:((s.extract 0 1).toList == [45]) = true) :
  Calls Tryz.prog 65 #[.string s,.string ⟨#[45]⟩] w fun e w' => e = .returned (.string (s.extract 1 s.size)) ∧ w' = w:=by
 have HK:=Hj (slHasPrefix_any s true w (by simp [h1,hc]))
 clear hc
 have HI:=Hj (show Calls Tryz.prog 120 #[.string s,.string ⟨#[45]⟩] w fun e w' => e = .returned (.string (s.extract 1 s.size)) ∧ w' = w from by
  have h1':(1:Int) ≤ (s.size:Int):=by omega
  go_enter Tryz.func120,Tryz.ntmps120
  go_wp2_with fail
  refine (Uh HK).mono ?_
  rintro _ _ ⟨rfl,hw⟩
  obtain rfl:=hw.symm
  clear hw
  go_wp2_with fail
  go_ret
  exact ⟨rfl,rfl⟩)
 go_enter Tryz.func65,Tryz.ntmps65
 go_wp2_with fail
 refine (Uh HI).mono ?_
 rintro _ _ ⟨rfl,hw⟩
 obtain rfl:=hw.symm
 clear hw
 go_wp2_with fail
 go_ret
 exact ⟨rfl,rfl⟩
set_option maxHeartbeats 4000000 in
theorem trimPrefix_no (s:ByteArray) (w:World) (hb:(decide (1 ≤ s.size) && ((s.extract 0 1).toList == [45])) = false) :
  Calls Tryz.prog 65 #[.string s,.string ⟨#[45]⟩] w fun e w' => e = .returned (.string s) ∧ w' = w:=by
 have HK:=Hj (slHasPrefix_any s false w hb)
 clear hb
 have HI:=Hj (show Calls Tryz.prog 120 #[.string s,.string ⟨#[45]⟩] w fun e w' => e = .returned (.string s) ∧ w' = w from by
  go_enter Tryz.func120,Tryz.ntmps120
  go_wp2_with fail
  refine (Uh HK).mono ?_
  rintro _ _ ⟨rfl,hw⟩
  obtain rfl:=hw.symm
  clear hw
  go_wp2_with fail
  go_ret
  exact ⟨rfl,rfl⟩)
 go_enter Tryz.func65,Tryz.ntmps65
 go_wp2_with fail
 refine (Uh HI).mono ?_
 rintro _ _ ⟨rfl,hw⟩
 obtain rfl:=hw.symm
 clear hw
 go_wp2_with fail
 go_ret
 exact ⟨rfl,rfl⟩
theorem byA_ext {s:ByteArray} {a b i:Nat} (h:i < b - a) (hb:b ≤ s.size):byA (s.extract a b) i = byA s (a + i):=by
 unfold byA
 have h1:(s.extract a b).get! i = s.get! (a + i):=by
  show (s.extract a b).data[i]! = s.data[a + i]!
  have hs:s.data.size = s.size:=rfl
  rw [getElem!_pos _ _ (by rw [ByteArray.data_extract]; simp; omega),getElem!_pos _ _ (by omega)]
  simp [ByteArray.data_extract]
 rw [h1]
set_option maxHeartbeats 1000000 in
theorem weuclid_any (x y:Nat) (w:World) (hx:x < 18446744073709551616) (hy:y < 18446744073709551616) :
  Calls Tryz.prog 188 #[.int .u64 (x:Nat),.int .u64 (y:Nat)] w fun e w' => e = .returned (.int .u64 (Nat.gcd x y:Nat)) ∧ w' = w:=by
 go_enter Tryz.func188,Tryz.ntmps188
 go_wp2
 go_loop [0,1] (fun xv yv => ∃ u v:Nat,u < 18446744073709551616 ∧ v < 18446744073709551616 ∧ xv = .int .u64 (u:Nat) ∧ yv = .int .u64 (v:Nat) ∧ Nat.gcd u v = Nat.gcd x y) (fun _ yv => (intOf yv).toNat)
 case atStart => exact ⟨x,y,hx,hy,rfl,rfl,rfl⟩
 case round =>
  obtain ⟨u,v,hu,hv,rfl,rfl,hg⟩:=hrel
  by_cases h0:v = 0
  ·have HG:=Hj (show u = Nat.gcd x y by rw [← hg,h0,Nat.gcd_zero_right])
   have t1:¬ (0:Int) < (v:Int):=by omega
   clear hg h0
   go_wp2
   go_ret
   exact ⟨by rw [← Uh HG]; rfl,rfl⟩
  ·have t1:(0:Int) < (v:Int):=by omega
   have t2:((v:Int) == 0) = false:=by simp; omega
   have t3:¬ (v:Int) = 0:=by omega
   have hlt:u % v < v:=Nat.mod_lt _ (by omega)
   have HG:=Hj (show Nat.gcd v (u % v) = Nat.gcd x y by rw [← hg,Nat.gcd_comm v,← Nat.gcd_rec,Nat.gcd_comm])
   have e1:(u:Int).tmod (v:Int) = ((u % v:Nat):Int):=by rw [Int.tmod_eq_emod_of_nonneg (by omega)]; exact (Int.natCast_emod _ _).symm
   have e2:(u:Int) % (v:Int) = ((u % v:Nat):Int):=(Int.natCast_emod _ _).symm
   generalize u % v = r at *
   clear hg h0
   go_wp2
   exact ⟨⟨v,r,hv,by omega,rfl,rfl,Uh HG⟩,by simp [intOf]; omega⟩

theorem drop_small {xs:List Nat} (ox:Ok xs) {k:Nat} (hk:1 ≤ k) (hn:xs.length ≤ 2):val (xs.drop k) < 4294967296:=by
 have:=val_lt (ox.drop k)
 have hl:(xs.drop k).length ≤ 1:=by simp; omega
 have h2:4294967296 ^ (xs.drop k).length ≤ 4294967296 ^ 1:=Nat.pow_le_pow_right (by decide) hl
 omega

set_option maxHeartbeats 1000000 in
theorem wsmall_any (a:Option Addr) (n c:Nat) (xs:List Nat) (w:World) (h:Sl w a n c xs) (ox:Ok xs) (hn:n ≤ 2) :
  Calls Tryz.prog 189 #[.slice a n c] w fun e w' => e = .returned (.int .u64 (val xs:Nat)) ∧ w' = w:=by
 have HL:=Hj h.len
 have HS:=Hj h
 clear h
 go_enter Tryz.func189,Tryz.ntmps189
 go_wp2
 go_loop [3,4] (fun xv i => ∃ k:Nat,k ≤ n ∧ i = .int .i64 ((k:Int) - 1) ∧ xv = .int .u64 (val (xs.drop k):Nat)) (fun _ i => (intOf i + 1).toNat)
 case atStart => exact ⟨n,Nat.le_refl _,rfl,by rw [List.drop_eq_nil_of_le (by rw [Uh HL]; exact Nat.le_refl _)]; rfl⟩
 case round =>
  obtain ⟨k,hk,rfl,rfl⟩:=hrel
  rcases k with _ | k
  ·have t1:¬ (0:Int) ≤ ((0:Nat):Int) - 1:=by omega
   go_wp2
   go_ret
   exact ⟨rfl,rfl⟩
  ·have t0:((k + 1:Nat):Int) - 1 = (k:Int):=by omega
   rw [t0]
   have t1:(k:Int) < (n:Int):=by omega
   have hne:xs ≠ []:=by intro e; have:=Uh HL; rw [e] at this; simp at this; omega
   obtain ⟨b,off,rfl,hc⟩:=(Uh HS).cells.resolve_left hne
   have g1:=hc k (by rw [Uh HL]; omega)
   have b1:=drop_small ox (k:=k + 1) (by omega) (by rw [Uh HL]; exact hn)
   have b2:=ox.getD k
   have e1:=or_halves (val (xs.drop (k + 1))) (xs.getD k 0) b1 b2
   rw [← val_drop_step] at e1
   have HV:=Hj (show val (xs.drop k) = xs.getD k 0 + 4294967296 * val (xs.drop (k + 1)) from val_drop_step _ _)
   have b3:val (xs.drop k) < 18446744073709551616:=by rw [Uh HV]; omega
   generalize val (xs.drop (k + 1)) = u at *
   generalize xs.getD k 0 = x at *
   obtain ⟨z,hz⟩:∃ z,val (xs.drop k) = z:=⟨_,rfl⟩
   rw [hz] at e1 b3
   have HZ:=Hj hz
   clear hz hc hne HS HV
   go_wp2
   exact ⟨⟨k,by omega,rfl,by rw [Uh HZ]⟩,by simp [intOf]⟩

set_option maxHeartbeats 400000 in
theorem wlimbs_any (v:Nat) (w:World) (hv:v < 18446744073709551616) :
  Calls Tryz.prog 187 #[.int .u64 (v:Nat)] w fun e w' => NewL w w' v e:=by
 have K:=wnorm_sl _ 2 2 _ _ (two_sl w (v % 4294967296) (v / 4294967296) 84) (by intro e; cases e) (two_ok v hv)
 rw [two_val] at K
 have HK:=Hj K
 clear K
 go_enter Tryz.func187,Tryz.ntmps187
 go_wp2_with fail
 refine (Uh HK).mono ?_
 rintro e w' ⟨m,rfl,hm,hO,hw⟩
 obtain rfl:=hw.symm
 have HO:=Hj hO
 clear hO HK
 have HB:=Hj ((Below.refl w.heap.size w).alloc (Nat.le_refl _) (.cells #[.int .u32 (v % 4294967296:Nat),.int .u32 (v / 4294967296:Nat)] 84))
 go_wp2_with fail
 go_ret
 exact ⟨_,_,_,rfl,Uh HO,fun x hx => by cases hx; exact Nat.le_refl _,(by intro e; cases e),Uh HB⟩

theorem shr_zero' {xs:List Nat} {n k l:Nat} (ox:Ok xs) (hl:xs.length = n) (hk:32 * l ≤ k) (hn:n ≤ l):val xs / 2 ^ k = 0:=by
 apply Nat.div_eq_of_lt
 have:=val_lt ox
 rw [hl,pow_limb] at this
 exact Nat.lt_of_lt_of_le this (Nat.pow_le_pow_right (by decide) (by omega))

set_option maxRecDepth 100000 in
set_option maxHeartbeats 4000000 in
theorem wlow_core (a:Option Addr) (n c:Nat) (xs:List Nat) (w:World) (k l s:Nat) (hsl:Sl w a n c xs) (ox:Ok xs) (hkl:(k:Int) / 32 = (l:Int)) (hks:(k:Int) % 32 = (s:Int)) (hs32:s < 32) (hk0:k ≤ 100000000000) (hn2:n ≤ 1000000000) :
  Calls Tryz.prog 194 #[.slice a n c,.int .i64 (k:Nat)] w fun e w' => NewO w w' (val xs / 2 ^ k) e:=by
 have hl2:(k:Int).tdiv 32 = (l:Int):=by rw [Int.tdiv_eq_ediv_of_nonneg (by omega)]; exact hkl
 have hs2:(k:Int).tmod 32 = (s:Int):=by rw [Int.tmod_eq_emod_of_nonneg (by omega)]; exact hks
 have HL:=Hj hsl.len
 have HV:=Hj (fun (hln:l ≤ n) => shr_val ox hsl.len hln (show k / 32 = l by omega) (show k % 32 = s by omega))
 have HZ:=Hj (fun (hln:n ≤ l) => shr_zero' (k:=k) (l:=l) ox hsl.len (by omega) hln)
 have hl0:l ≤ 10000000000:=by omega
 have HS0:=Hj hsl
 obtain ⟨i80,hi80,hz80,hs80,hb80⟩:=info_parts Tryz.info_u32
 have I80:=Hj (And.intro hi80 (And.intro hz80 (And.intro hs80 hb80)))
 clear hi80 hz80 hs80 hb80 hsl
 go_enter Tryz.func194,Tryz.ntmps194
 go_wp2_with fail
 go_loopw [5,6] (fun v i wr => ∃ j:Nat,(j = 0 ∨ l + j ≤ n) ∧ i = .int .i64 ((l:Int) + (j:Int)) ∧ SrR wr w xs l s v j) (fun _ i _ => n - (intOf i).toNat)
 case atStart => exact ⟨0,.inl rfl,by simp,⟨World.ownsRow_nil _ _ _ _,Below.refl _ _⟩⟩
 case round =>
  obtain ⟨j,hj,rfl,hR⟩:=hrel
  have hj2:j ≤ 1000000000:=by omega
  by_cases hlt:l + j < n
  ·have hlt':(l:Int) + (j:Int) < (n:Int):=by omega
   have hne:xs ≠ []:=by intro e; have:=Uh HL; rw [e] at this; simp at this; omega
   obtain ⟨b,off,e0,hc⟩:=((Uh HS0).below hR.bel).cells.resolve_left hne
   subst e0
   have g1:=hc (l + j) (by rw [Uh HL]; omega)
   have bx:=ox.getD (l + j)
   have bY:=ox.getD (l + j + 1)
   have HS:=Hj (fun w1 v' o hown hg => (SrR.step (w1:=w1) (v':=v') (o:=o) hR hown hg))
   have HSZ:=Hj hR.bel.size
   have HR:=Hj hR
   by_cases hB:l + j + 1 < n
   ·have tB:(l:Int) + (j:Int) + 1 < (n:Int):=by omega
    have g2:=hc (l + j + 1) (by rw [Uh HL]; omega)
    have e0:=dv_int2 (lo:=xs.getD (l + j) 0) (hi:=xs.getD (l + j + 1) 0) bx bY
    have e1:=srd_int (xs.getD (l + j) 0) (xs.getD (l + j + 1) 0) s
    have b1:=dv_lt (lo:=xs.getD (l + j) 0) (hi:=xs.getD (l + j + 1) 0) bx bY
    clear hR hc hne HS0
    generalize xs.getD (l + j) 0 = x at *
    generalize xs.getD (l + j + 1) 0 = y at *
    go_wp2_with (at_builtin; refine wpList_append_lies _ rfl _ _ 22 rfl w.heap.size 84 i80 (.int .u32 0) 1 4 Tryz.underlying22 (Uh I80).1 (Uh I80).2.1 (Uh I80).2.2.1 (Uh I80).2.2.2 rfl (by decide) _ j _ rfl ((Uh HR).own.alloc _) ⟨wr.heap.size,0,none⟩ 1 1 [.int .u32 (srd x y s:Nat)] rfl rfl (World.news_of_block (alloc_block _ _)) one_int (by decide) ?c31A ?c41A ?c51A (wr.heap.size + 1) (by simp) ?_)
    case c31A => unfold maxLen; omega
    case c41A => omega
    case c51A => have:=Uh HSZ; simp; omega
    intro g1 cc w2 hown hgrow hat hlt2
    have HN:=Hj (Uh HS w2 _ _ hown hgrow)
    clear hown hgrow hat hlt2 HS HR
    go_wp2
    exact ⟨⟨j + 1,by omega,by go_num,Uh HN⟩,by simp [intOf]; omega⟩
   ·have tB:¬ (l:Int) + (j:Int) + 1 < (n:Int):=by omega
    have zy:xs.getD (l + j + 1) 0 = 0:=getD_ge (by rw [Uh HL]; omega)
    have hsr:srd (xs.getD (l + j) 0) (xs.getD (l + j + 1) 0) s = xs.getD (l + j) 0 / 2 ^ s:=by
     rw [zy]; unfold srd dv
     rw [Nat.mul_zero,Nat.add_zero,Nat.mod_eq_of_lt (Nat.lt_of_le_of_lt (Nat.div_le_self _ _) bx)]
    have b3:=srd_lt (xs.getD (l + j) 0) (xs.getD (l + j + 1) 0) s
    have e1:((xs.getD (l + j) 0:Nat):Int) / 2 ^ s = ((srd (xs.getD (l + j) 0) (xs.getD (l + j + 1) 0) s:Nat):Int):=by rw [hsr,Int.natCast_ediv,Int.natCast_pow]; rfl
    clear hR hc hne HS0 zy hsr
    generalize xs.getD (l + j) 0 = x at *
    generalize xs.getD (l + j + 1) 0 = y at *
    go_wp2_with (at_builtin; refine wpList_append_lies _ rfl _ _ 22 rfl w.heap.size 84 i80 (.int .u32 0) 1 4 Tryz.underlying22 (Uh I80).1 (Uh I80).2.1 (Uh I80).2.2.1 (Uh I80).2.2.2 rfl (by decide) _ j _ rfl ((Uh HR).own.alloc _) ⟨wr.heap.size,0,none⟩ 1 1 [.int .u32 (srd x y s:Nat)] rfl rfl (World.news_of_block (alloc_block _ _)) one_int (by decide) ?c31B ?c41B ?c51B (wr.heap.size + 1) (by simp) ?_)
    case c31B => unfold maxLen; omega
    case c41B => omega
    case c51B => have:=Uh HSZ; simp; omega
    intro g1 cc w2 hown hgrow hat hlt2
    have HN:=Hj (Uh HS w2 _ _ hown hgrow)
    clear hown hgrow hat hlt2 HS HR
    go_wp2
    exact ⟨⟨j + 1,by omega,by go_num,Uh HN⟩,by simp [intOf]; omega⟩
  ·have hlt':¬ (l:Int) + (j:Int) < (n:Int):=by omega
   have hv:val (lst (shF xs l s) j) = val xs / 2 ^ k:=by
    rw [lst_val]
    by_cases hln:l ≤ n
    ·have e:j = n - l:=by omega
     rw [e]; exact Uh HV hln
    ·have e:j = 0:=by omega
     rw [e,Uh HZ (by omega)]; rfl
   obtain ⟨a',c',e,_,_⟩:=own_sl hR.own
   subst e
   have K:=wnorm_any a' j c' w.heap.size _ wr hR.own (lst_ok (fun i _ => srd_lt _ _ _))
   rw [hv] at K
   have HK:=Hj K
   have HB:=Hj hR.bel
   clear K hR hv
   go_wp2_with fail
   refine (Uh HK).mono ?_
   rintro e w' ⟨m,rfl,hm,hO,hw⟩
   obtain rfl:=hw.symm
   have HO:=Hj hO
   clear hO hw HK
   go_wp2_with fail
   go_ret
   exact ⟨_,_,_,rfl,Uh HO,Uh HB⟩

theorem wlow_any (a:Option Addr) (n c:Nat) (xs:List Nat) (w:World) (k:Nat) (hsl:Sl w a n c xs) (ox:Ok xs) (hk0:k ≤ 100000000000) (hn2:n ≤ 1000000000) :
  Calls Tryz.prog 194 #[.slice a n c,.int .i64 (k:Nat)] w fun e w' => NewO w w' (val xs / 2 ^ k) e :=
 wlow_core a n c xs w k (k / 32) (k % 32) hsl ox (by omega) (by omega) (by omega) hk0 hn2
def tw (x c:Nat):Nat:=2 * x % 4294967296 + c
theorem tw_lt {x c:Nat} (hc:c ≤ 1):tw x c < 4294967296:=by unfold tw; omega
theorem tw_or {x c:Nat} (hx:x < 4294967296) (hc:c ≤ 1):bits .or .u32 ((2 * x % 4294967296:Nat):Int) (c:Int) = ((tw x c:Nat):Int):=by
 rw [u32_or_nat _ _ (by omega) (by omega)]
 congr 1
 have:=Nat.shiftLeft_add_eq_or_of_lt (i:=1) (b:=c) (by omega) (x % 2147483648)
 rw [Nat.shiftLeft_eq] at this
 have e:2 * x % 4294967296 = x % 2147483648 * 2 ^ 1:=by omega
 rw [e,← this]
 unfold tw
 omega

theorem tw_arith {A F P c x t bit:Nat} (h:A + P * c = 2 * F + bit) (e:t + 4294967296 * (x / 2147483648) = 2 * x + c):A + P * t + P * 4294967296 * (x / 2147483648) = 2 * (F + P * x) + bit:=by
 have:P * (t + 4294967296 * (x / 2147483648)) = P * (2 * x + c):=by rw [e]
 rw [Nat.mul_add,Nat.mul_add,← Nat.mul_assoc,← Nat.mul_assoc P 2,Nat.mul_comm P 2,Nat.mul_assoc 2] at this
 omega
end Go.Proofs.YtmnlhnmlgncedaaGreatDoor
