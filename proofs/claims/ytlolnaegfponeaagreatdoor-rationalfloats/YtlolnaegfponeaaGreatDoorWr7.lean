/- Wr6 -/
import Derived.Test.YtlolnaegfponeaaGreatDoorWr4
import Derived.Test.YtlolnaegfponeaaGreatDoorWr2
namespace Go.Proofs.YtlolnaegfponeaaGreatDoor
open Go.RowKit Go.Deep
set_option linter.unusedVariables false
set_option maxHeartbeats 1000000 in
theorem weuclid_any (x y:Nat) (w:World) (hx:x < 18446744073709551616) (hy:y < 18446744073709551616) :
  Calls Tryz.prog 161 #[.int .u64 (x:Nat),.int .u64 (y:Nat)] w fun e w' => e = .returned (.int .u64 (Nat.gcd x y:Nat)) ∧ w' = w:=by
 go_enter Tryz.func161,Tryz.ntmps161
 go_wp2
 go_loop [0,1] (fun xv yv => ∃ u v:Nat,u < 18446744073709551616 ∧ v < 18446744073709551616 ∧ xv = .int .u64 (u:Nat) ∧ yv = .int .u64 (v:Nat) ∧ Nat.gcd u v = Nat.gcd x y) (fun _ yv => (intOf yv).toNat)
 case atStart => exact ⟨x,y,hx,hy,rfl,rfl,rfl⟩
 case round =>
  obtain ⟨u,v,hu,hv,rfl,rfl,hg⟩:=hrel
  by_cases h0:v = 0
  ·have HG:=Hd (show u = Nat.gcd x y by rw [← hg,h0,Nat.gcd_zero_right])
   have t1:¬ (0:Int) < (v:Int):=by omega
   clear hg h0
   go_wp2
   go_ret
   exact ⟨by rw [← Uh HG]; rfl,rfl⟩
  ·have t1:(0:Int) < (v:Int):=by omega
   have t2:((v:Int) == 0) = false:=by simp; omega
   have t3:¬ (v:Int) = 0:=by omega
   have hlt:u % v < v:=Nat.mod_lt _ (by omega)
   have HG:=Hd (show Nat.gcd v (u % v) = Nat.gcd x y by rw [← hg,Nat.gcd_comm v,← Nat.gcd_rec,Nat.gcd_comm])
   have e1:(u:Int).tmod (v:Int) = ((u % v:Nat):Int):=by rw [Int.tmod_eq_emod_of_nonneg (by omega)]; exact (Int.natCast_emod _ _).symm
   have e2:(u:Int) % (v:Int) = ((u % v:Nat):Int):=(Int.natCast_emod _ _).symm
   generalize u % v = r at *
   clear hg h0
   go_wp2
   exact ⟨⟨v,r,hv,by omega,rfl,rfl,Uh HG⟩,by simp [intOf]; omega⟩

theorem drop_small {xs:List Nat} (ox:Ok xs) {k:Nat} (hk:1 ≤ k) (hn:xs.length ≤ 2):val (xs.drop k) < 4294967296:=by
 have:=val_lt (ox.drop k)
 have hl:(xs.drop k).length ≤ 1:=by simp; omega
 have h2:4294967296 ^ (xs.drop k).length ≤ 4294967296 ^ 1:=Nat.pow_le_pow_right (by decide) hl
 omega

set_option maxHeartbeats 1000000 in
theorem wsmall_any (a:Option Addr) (n c:Nat) (xs:List Nat) (w:World) (h:Sl w a n c xs) (ox:Ok xs) (hn:n ≤ 2) :
  Calls Tryz.prog 112 #[.slice a n c] w fun e w' => e = .returned (.int .u64 (val xs:Nat)) ∧ w' = w:=by
 have HL:=Hd h.len
 have HS:=Hd h
 clear h
 go_enter Tryz.func112,Tryz.ntmps112
 go_wp2
 go_loop [3,4] (fun xv i => ∃ k:Nat,k ≤ n ∧ i = .int .i64 ((k:Int) - 1) ∧ xv = .int .u64 (val (xs.drop k):Nat)) (fun _ i => (intOf i + 1).toNat)
 case atStart => exact ⟨n,Nat.le_refl _,rfl,by rw [List.drop_eq_nil_of_le (by rw [Uh HL]; exact Nat.le_refl _)]; rfl⟩
 case round =>
  obtain ⟨k,hk,rfl,rfl⟩:=hrel
  rcases k with _ | k
  ·have t1:¬ (0:Int) ≤ ((0:Nat):Int) - 1:=by omega
   go_wp2
   go_ret
   exact ⟨rfl,rfl⟩
  ·have t0:((k + 1:Nat):Int) - 1 = (k:Int):=by omega
   rw [t0]
   have t1:(k:Int) < (n:Int):=by omega
   have hne:xs ≠ []:=by intro e; have:=Uh HL; rw [e] at this; simp at this; omega
   obtain ⟨b,off,rfl,hc⟩:=(Uh HS).cells.resolve_left hne
   have g1:=hc k (by rw [Uh HL]; omega)
   have b1:=drop_small ox (k:=k + 1) (by omega) (by rw [Uh HL]; exact hn)
   have b2:=ox.getD k
   have e1:=or_halves (val (xs.drop (k + 1))) (xs.getD k 0) b1 b2
   rw [← val_drop_step] at e1
   have HV:=Hd (show val (xs.drop k) = xs.getD k 0 + 4294967296 * val (xs.drop (k + 1)) from val_drop_step _ _)
   have b3:val (xs.drop k) < 18446744073709551616:=by rw [Uh HV]; omega
   generalize val (xs.drop (k + 1)) = u at *
   generalize xs.getD k 0 = x at *
   obtain ⟨z,hz⟩:∃ z,val (xs.drop k) = z:=⟨_,rfl⟩
   rw [hz] at e1 b3
   have HZ:=Hd hz
   clear hz hc hne HS HV
   go_wp2
   exact ⟨⟨k,by omega,rfl,by rw [Uh HZ]⟩,by simp [intOf]⟩

set_option maxHeartbeats 400000 in
theorem wlimbs_any (v:Nat) (w:World) (hv:v < 18446744073709551616) :
  Calls Tryz.prog 56 #[.int .u64 (v:Nat)] w fun e w' => NewL w w' v e:=by
 have K:=wnorm_sl _ 2 2 _ _ (two_sl w (v % 4294967296) (v / 4294967296) 43) (by intro e; cases e) (two_ok v hv)
 rw [two_val] at K
 have HK:=Hd K
 clear K
 go_enter Tryz.func56,Tryz.ntmps56
 go_wp2_with fail
 refine (Uh HK).mono ?_
 rintro e w' ⟨m,rfl,hm,hO,hw⟩
 obtain rfl:=hw.symm
 have HO:=Hd hO
 clear hO HK
 have HB:=Hd ((Below.refl w.heap.size w).alloc (Nat.le_refl _) (.cells #[.int .u32 (v % 4294967296:Nat),.int .u32 (v / 4294967296:Nat)] 43))
 go_wp2_with fail
 go_ret
 exact ⟨_,_,_,rfl,Uh HO,fun x hx => by cases hx; exact Nat.le_refl _,(by intro e; cases e),Uh HB⟩

theorem shr_zero' {xs:List Nat} {n k l:Nat} (ox:Ok xs) (hl:xs.length = n) (hk:32 * l ≤ k) (hn:n ≤ l):val xs / 2 ^ k = 0:=by
 apply Nat.div_eq_of_lt
 have:=val_lt ox
 rw [hl,pow_limb] at this
 exact Nat.lt_of_lt_of_le this (Nat.pow_le_pow_right (by decide) (by omega))

set_option maxRecDepth 100000 in
set_option maxHeartbeats 4000000 in
theorem wlow_core (a:Option Addr) (n c:Nat) (xs:List Nat) (w:World) (k l s:Nat) (hsl:Sl w a n c xs) (ox:Ok xs) (hkl:(k:Int) / 32 = (l:Int)) (hks:(k:Int) % 32 = (s:Int)) (hs32:s < 32) (hk0:k ≤ 100000000000) (hn2:n ≤ 1000000000) :
  Calls Tryz.prog 164 #[.slice a n c,.int .i64 (k:Nat)] w fun e w' => NewO w w' (val xs / 2 ^ k) e:=by
 have hl2:(k:Int).tdiv 32 = (l:Int):=by rw [Int.tdiv_eq_ediv_of_nonneg (by omega)]; exact hkl
 have hs2:(k:Int).tmod 32 = (s:Int):=by rw [Int.tmod_eq_emod_of_nonneg (by omega)]; exact hks
 have HL:=Hd hsl.len
 have HV:=Hd (fun (hln:l ≤ n) => shr_val ox hsl.len hln (show k / 32 = l by omega) (show k % 32 = s by omega))
 have HZ:=Hd (fun (hln:n ≤ l) => shr_zero' (k:=k) (l:=l) ox hsl.len (by omega) hln)
 have hl0:l ≤ 10000000000:=by omega
 have HS0:=Hd hsl
 obtain ⟨i80,hi80,hz80,hs80,hb80⟩:=info_parts Tryz.info_u32
 have I80:=Hd (And.intro hi80 (And.intro hz80 (And.intro hs80 hb80)))
 clear hi80 hz80 hs80 hb80 hsl
 go_enter Tryz.func164,Tryz.ntmps164
 go_wp2_with fail
 go_loopw [5,6] (fun v i wr => ∃ j:Nat,(j = 0 ∨ l + j ≤ n) ∧ i = .int .i64 ((l:Int) + (j:Int)) ∧ SrR wr w xs l s v j) (fun _ i _ => n - (intOf i).toNat)
 case atStart => exact ⟨0,.inl rfl,by simp,⟨World.ownsRow_nil _ _ _ _,Below.refl _ _⟩⟩
 case round =>
  obtain ⟨j,hj,rfl,hR⟩:=hrel
  have hj2:j ≤ 1000000000:=by omega
  by_cases hlt:l + j < n
  ·have hlt':(l:Int) + (j:Int) < (n:Int):=by omega
   have hne:xs ≠ []:=by intro e; have:=Uh HL; rw [e] at this; simp at this; omega
   obtain ⟨b,off,e0,hc⟩:=((Uh HS0).below hR.bel).cells.resolve_left hne
   subst e0
   have g1:=hc (l + j) (by rw [Uh HL]; omega)
   have bx:=ox.getD (l + j)
   have bY:=ox.getD (l + j + 1)
   have HS:=Hd (fun w1 v' o hown hg => (SrR.step (w1:=w1) (v':=v') (o:=o) hR hown hg))
   have HSZ:=Hd hR.bel.size
   have HR:=Hd hR
   by_cases hB:l + j + 1 < n
   ·have tB:(l:Int) + (j:Int) + 1 < (n:Int):=by omega
    have g2:=hc (l + j + 1) (by rw [Uh HL]; omega)
    have e0:=dv_int2 (lo:=xs.getD (l + j) 0) (hi:=xs.getD (l + j + 1) 0) bx bY
    have e1:=srd_int (xs.getD (l + j) 0) (xs.getD (l + j + 1) 0) s
    have b1:=dv_lt (lo:=xs.getD (l + j) 0) (hi:=xs.getD (l + j + 1) 0) bx bY
    clear hR hc hne HS0
    generalize xs.getD (l + j) 0 = x at *
    generalize xs.getD (l + j + 1) 0 = y at *
    go_wp2_with (at_builtin; refine wpList_append_lies _ rfl _ _ 22 rfl w.heap.size 43 i80 (.int .u32 0) 1 4 Tryz.underlying22 (Uh I80).1 (Uh I80).2.1 (Uh I80).2.2.1 (Uh I80).2.2.2 rfl (by decide) _ j _ rfl ((Uh HR).own.alloc _) ⟨wr.heap.size,0,none⟩ 1 1 [.int .u32 (srd x y s:Nat)] rfl rfl (World.news_of_block (alloc_block _ _)) one_int (by decide) ?c31A ?c41A ?c51A (wr.heap.size + 1) (by simp) ?_)
    case c31A => unfold maxLen; omega
    case c41A => omega
    case c51A => have:=Uh HSZ; simp; omega
    intro g1 cc w2 hown hgrow hat hlt2
    have HN:=Hd (Uh HS w2 _ _ hown hgrow)
    clear hown hgrow hat hlt2 HS HR
    go_wp2
    exact ⟨⟨j + 1,by omega,by go_num,Uh HN⟩,by simp [intOf]; omega⟩
   ·have tB:¬ (l:Int) + (j:Int) + 1 < (n:Int):=by omega
    have zy:xs.getD (l + j + 1) 0 = 0:=getD_ge (by rw [Uh HL]; omega)
    have hsr:srd (xs.getD (l + j) 0) (xs.getD (l + j + 1) 0) s = xs.getD (l + j) 0 / 2 ^ s:=by
     rw [zy]; unfold srd dv
     rw [Nat.mul_zero,Nat.add_zero,Nat.mod_eq_of_lt (Nat.lt_of_le_of_lt (Nat.div_le_self _ _) bx)]
    have b3:=srd_lt (xs.getD (l + j) 0) (xs.getD (l + j + 1) 0) s
    have e1:((xs.getD (l + j) 0:Nat):Int) / 2 ^ s = ((srd (xs.getD (l + j) 0) (xs.getD (l + j + 1) 0) s:Nat):Int):=by rw [hsr,Int.natCast_ediv,Int.natCast_pow]; rfl
    clear hR hc hne HS0 zy hsr
    generalize xs.getD (l + j) 0 = x at *
    generalize xs.getD (l + j + 1) 0 = y at *
    go_wp2_with (at_builtin; refine wpList_append_lies _ rfl _ _ 22 rfl w.heap.size 43 i80 (.int .u32 0) 1 4 Tryz.underlying22 (Uh I80).1 (Uh I80).2.1 (Uh I80).2.2.1 (Uh I80).2.2.2 rfl (by decide) _ j _ rfl ((Uh HR).own.alloc _) ⟨wr.heap.size,0,none⟩ 1 1 [.int .u32 (srd x y s:Nat)] rfl rfl (World.news_of_block (alloc_block _ _)) one_int (by decide) ?c31B ?c41B ?c51B (wr.heap.size + 1) (by simp) ?_)
    case c31B => unfold maxLen; omega
    case c41B => omega
    case c51B => have:=Uh HSZ; simp; omega
    intro g1 cc w2 hown hgrow hat hlt2
    have HN:=Hd (Uh HS w2 _ _ hown hgrow)
    clear hown hgrow hat hlt2 HS HR
    go_wp2
    exact ⟨⟨j + 1,by omega,by go_num,Uh HN⟩,by simp [intOf]; omega⟩
  ·have hlt':¬ (l:Int) + (j:Int) < (n:Int):=by omega
   have hv:val (lst (shF xs l s) j) = val xs / 2 ^ k:=by
    rw [lst_val]
    by_cases hln:l ≤ n
    ·have e:j = n - l:=by omega
     rw [e]; exact Uh HV hln
    ·have e:j = 0:=by omega
     rw [e,Uh HZ (by omega)]; rfl
   obtain ⟨a',c',e,_,_⟩:=own_sl hR.own
   subst e
   have K:=wnorm_any a' j c' w.heap.size _ wr hR.own (lst_ok (fun i _ => srd_lt _ _ _))
   rw [hv] at K
   have HK:=Hd K
   have HB:=Hd hR.bel
   clear K hR hv
   go_wp2_with fail
   refine (Uh HK).mono ?_
   rintro e w' ⟨m,rfl,hm,hO,hw⟩
   obtain rfl:=hw.symm
   have HO:=Hd hO
   clear hO hw HK
   go_wp2_with fail
   go_ret
   exact ⟨_,_,_,rfl,Uh HO,Uh HB⟩

theorem wlow_any (a:Option Addr) (n c:Nat) (xs:List Nat) (w:World) (k:Nat) (hsl:Sl w a n c xs) (ox:Ok xs) (hk0:k ≤ 100000000000) (hn2:n ≤ 1000000000) :
  Calls Tryz.prog 164 #[.slice a n c,.int .i64 (k:Nat)] w fun e w' => NewO w w' (val xs / 2 ^ k) e :=
 wlow_core a n c xs w k (k / 32) (k % 32) hsl ox (by omega) (by omega) (by omega) hk0 hn2
def tw (x c:Nat):Nat:=2 * x % 4294967296 + c
theorem tw_lt {x c:Nat} (hc:c ≤ 1):tw x c < 4294967296:=by unfold tw; omega
theorem tw_or {x c:Nat} (hx:x < 4294967296) (hc:c ≤ 1):bits .or .u32 ((2 * x % 4294967296:Nat):Int) (c:Int) = ((tw x c:Nat):Int):=by
 rw [u32_or_nat _ _ (by omega) (by omega)]
 congr 1
 have:=Nat.shiftLeft_add_eq_or_of_lt (i:=1) (b:=c) (by omega) (x % 2147483648)
 rw [Nat.shiftLeft_eq] at this
 have e:2 * x % 4294967296 = x % 2147483648 * 2 ^ 1:=by omega
 rw [e,← this]
 unfold tw
 omega

structure TwR (wr w:World) (b n:Nat) (f:Nat → Nat) (bit k c:Nat) (g:Nat → Nat):Prop where
 cle:c ≤ 1
 fn:Fn wr b 0 n g
 ok:∀ i,i < n → g i < 4294967296
 eq:∀ i,k ≤ i → i < n → g i = f i
 val:valF g k + 4294967296 ^ k * c = 2 * valF f k + bit
 upd:Upd b 0 n w wr

theorem tw_arith {A F P c x t bit:Nat} (h:A + P * c = 2 * F + bit) (e:t + 4294967296 * (x / 2147483648) = 2 * x + c):A + P * t + P * 4294967296 * (x / 2147483648) = 2 * (F + P * x) + bit:=by
 have:P * (t + 4294967296 * (x / 2147483648)) = P * (2 * x + c):=by rw [e]
 rw [Nat.mul_add,Nat.mul_add,← Nat.mul_assoc,← Nat.mul_assoc P 2,Nat.mul_comm P 2,Nat.mul_assoc 2] at this
 omega

theorem TwR.step {wr w:World} {b n:Nat} {f:Nat → Nat} {bit k c:Nat} {g:Nat → Nat} (h:TwR wr w b n f bit k c g) (hk:k < n) :
  TwR (wr.setCell ⟨b,0 + k,none⟩ (.int .u32 (tw (g k) c:Nat))) w b n f bit (k + 1) (g k / 2147483648) (fun i => if i = k then tw (g k) c else g i):=by
 have hx:=h.ok k hk
 refine ⟨by omega,h.fn.set k _ hk,?_,?_,?_,h.upd.set _ _ (by omega) (by omega)⟩
 ·intro i hi
  by_cases e:i = k
  ·simp only [e,if_true]; exact tw_lt h.cle
  ·simp only [e,if_false]; exact h.ok i hi
 ·intro i h1 h2
  rw [if_neg (by omega)]
  exact h.eq i (by omega) h2
 ·simp only [valF,if_true]
  rw [valF_congr (g:=g) (fun i hi => by rw [if_neg (by omega)]),Nat.pow_succ,← h.eq k (Nat.le_refl _) hk]
  refine tw_arith h.val ?_
  unfold tw
  omega

theorem TwR.drewN {wr w:World} {b n:Nat} {f:Nat → Nat} {bit k c:Nat} {g:Nat → Nat} (h:TwR wr w b n f bit k c g) (j:Nat):TwR (wr.drewN j) w b n f bit k c g:=⟨h.cle,h.fn,h.ok,h.eq,h.val,h.upd.drewN j⟩
theorem wnorm_of_ge {L:List Nat} (ok:Ok L) (h:L = [] ∨ 4294967296 ^ (L.length - 1) ≤ val L):Norm L:=by
 rcases h with h | h
 ·exact .inl h
 ·by_cases hx:L = []
  ·exact .inl hx
  ·right
   intro h0
   have hp:0 < L.length:=List.length_pos_iff.2 hx
   have e:=val_split L (L.length - 1) (by omega)
   rw [drop_cons (by omega),h0,List.drop_eq_nil_of_le (by omega)] at e
   simp only [val,Nat.mul_zero,Nat.add_zero] at e
   have b:=val_lt (ok.take (L.length - 1))
   rw [List.length_take,Nat.min_eq_left (by omega)] at b
   omega

structure DbR (wr w:World) (B g n cp:Nat) (xs:List Nat) (s bit:Nat) (k c:Nat) (zs:List Nat):Prop where
 len:zs.length = k
 ok:Ok zs
 cle:c ≤ 1
 own:Ow wr B (some ⟨g,0,none⟩) n cp (zs ++ xs.drop k)
 val:val zs + 4294967296 ^ k * c = 2 * s + bit
 chg:Chg (fun j => AtB (some ⟨g,0,none⟩) j) w wr

theorem DbR.step {wr w:World} {B g n cp:Nat} {xs:List Nat} {s bit k c:Nat} {zs:List Nat} (h:DbR wr w B g n cp xs s bit k c zs) (hl:xs.length = n) (hk:k < n) (x:Nat) (hx:x < 4294967296) :
  DbR (wr.setCell ⟨g,k,none⟩ (.int .u32 (tw x c:Nat))) w B g n cp xs (s + 4294967296 ^ k * x) bit (k + 1) (x / 2147483648) (zs ++ [tw x c]):=by
 refine ⟨by simp [h.len],?_,by omega,?_,?_,h.chg.trans (.of_set _ _ _ _ atB_some)⟩
 ·intro z hz
  rcases List.mem_append.1 hz with hz | hz
  ·exact h.ok z hz
  ·simp at hz; subst hz; exact tw_lt h.cle
 ·have:=h.own.set k (tw x c)
  rw [set_mid h.len hl hk] at this
  exact this
 ·rw [val_append,h.len]
  simp only [Go.Proofs.YtlolnaegfponeaaGreatDoor.val,Nat.mul_zero,Nat.add_zero]
  rw [Nat.pow_succ]
  refine tw_arith h.val ?_
  unfold tw
  omega

def From2 (w:World) (a a':Option Addr):Prop:=∀ k,AtB a' k → AtB a k ∨ w.heap.size ≤ k

theorem db_norm {v:Nat} {zs:List Nat} {bit:Nat} (oz:Ok zs) (hl:zs.length = (limbs v).length) (hv:val zs = 2 * v + bit):zs = limbs (2 * v + bit):=by
 have:Norm zs:=wnorm_of_ge oz (by
  by_cases h:limbs v = []
  ·left; rw [h] at hl; exact List.eq_nil_of_length_eq_zero hl
  ·right
   have:=val_ge_of_norm (limbs_norm v) h
   rw [limbs_v] at this
   rw [hl,hv]
   omega)
 rw [← hv]
 exact (limbs_val oz this).symm
theorem db_norm1 {v:Nat} {zs:List Nat} {bit c:Nat} (oz:Ok zs) (hc:c = 1) (hl:zs.length = (limbs v).length) (hv:val zs + 4294967296 ^ (limbs v).length * c = 2 * v + bit):zs ++ [c] = limbs (2 * v + bit):=by
 have ok:Ok (zs ++ [c]):=by
  intro z hz
  rcases List.mem_append.1 hz with hz | hz
  ·exact oz z hz
  ·simp at hz; subst hz; omega
 have hval:val (zs ++ [c]) = 2 * v + bit:=by
  rw [val_append,hl]
  simp only [val,Nat.mul_zero,Nat.add_zero]
  exact hv
 have:Norm (zs ++ [c]):=by
  right
  simp [hc]
 rw [← hval]
 exact (limbs_val ok this).symm

set_option maxRecDepth 100000 in
set_option maxHeartbeats 4000000 in
theorem wdouble_some (g B n cp v bit:Nat) (w:World) (h1:Ow w B (some ⟨g,0,none⟩) n cp (limbs v)) (hb:bit ≤ 1) (hn:n ≤ 1000000000) (hB:B ≤ w.heap.size) :
  Calls Tryz.prog 165 #[.slice (some ⟨g,0,none⟩) n cp,.int .u32 (bit:Nat)] w fun e w' => ∃ a' m c',e = .returned (.slice a' m c') ∧ Ow w' B a' m c' (limbs (2 * v + bit)) ∧ From2 w (some ⟨g,0,none⟩) a' ∧ Chg (fun j => AtB (some ⟨g,0,none⟩) j) w w':=by
 have hl1:=Hd h1.len
 have HV:=Hd (limbs_v v)
 have ox:=limbs_ok v
 have H0:=Hd (show DbR w w B g n cp (limbs v) (valF (fun i => (limbs v).getD i 0) 0) bit 0 bit [] from ⟨rfl,Ok.nil,hb,by simpa using h1,by simp [valF,val],Chg.refl _ _⟩)
 have HDN:=Hd (fun zs oz hl hv => db_norm (v:=v) (zs:=zs) (bit:=bit) oz hl hv)
 have HD1:=Hd (fun zs c oz hc hl hv => db_norm1 (v:=v) (zs:=zs) (bit:=bit) (c:=c) oz hc hl hv)
 obtain ⟨xs,hxs⟩:∃ xs,limbs v = xs:=⟨_,rfl⟩
 rw [hxs] at hl1 HV ox H0 HDN HD1
 obtain ⟨V,hV⟩:∃ V,limbs (2 * v + bit) = V:=⟨_,rfl⟩
 rw [hV] at HDN HD1 ⊢
 obtain ⟨i80,hi80,hz80,hs80,hb80⟩:=info_parts Tryz.info_u32
 have I80:=Hd (And.intro hi80 (And.intro hz80 (And.intro hs80 hb80)))
 clear hi80 hz80 hs80 hb80 h1 hxs hV
 go_enter Tryz.func165,Tryz.ntmps165
 go_wp2
 go_loopw [1,5] (fun cv i wr => ∃ k c:Nat,∃ zs:List Nat,k ≤ n ∧ i = .int .i64 k ∧ cv = .int .u32 (c:Nat) ∧ DbR wr w B g n cp xs (valF (fun i => xs.getD i 0) k) bit k c zs) (fun _ i _ => n - (intOf i).toNat)
 case atStart => exact ⟨0,bit,[],Nat.zero_le _,rfl,rfl,Uh H0⟩
 case round =>
  clear H0
  obtain ⟨k,c,zs,hk,rfl,rfl,hR⟩:=hrel
  by_cases hlt:k < n
  ·have hlt':(k:Int) < (n:Int):=by omega
   have g1:=hR.own.cell (i:=k) hlt
   rw [get_mid hR.len (Uh hl1) hlt] at g1
   have g2:=hR.own.froz (i:=k)
   have bx:=ox.getD k
   have hc:=hR.cle
   have HS':=Hd (show DbR _ w B g n cp xs (valF (fun i => xs.getD i 0) (k + 1)) bit (k + 1) _ _ from hR.step (Uh hl1) hlt (xs.getD k 0) bx)
   have eo:=tw_or bx hc
   have e1:IntKind.u32.wrap (((xs.getD k 0:Nat):Int) * 2) = ((2 * xs.getD k 0 % 4294967296:Nat):Int):=by rw [IntKind.wrap_u32]; omega
   have e2:(((xs.getD k 0:Nat):Int) * 2) % 4294967296 = ((2 * xs.getD k 0 % 4294967296:Nat):Int):=by omega
   have e3:((xs.getD k 0:Nat):Int) / 2147483648 = ((xs.getD k 0 / 2147483648:Nat):Int):=by omega
   have b3:xs.getD k 0 / 2147483648 ≤ 1:=by omega
   generalize xs.getD k 0 / 2147483648 = t at *
   have b2:2 * xs.getD k 0 % 4294967296 < 4294967296:=by omega
   generalize 2 * xs.getD k 0 % 4294967296 = d at *
   have b4:=tw_lt (x:=xs.getD k 0) hc
   generalize tw (xs.getD k 0) c = y at *
   generalize xs.getD k 0 = x at *
   clear hR
   go_wp2_with fail
   exact ⟨⟨k + 1,_,_,by omega,by go_num,rfl,Uh HS'⟩,by simp [intOf]; omega⟩
  ·have hkn:k = n:=by omega
   have hlt':¬ (k:Int) < (n:Int):=by omega
   have hv:=hR.val
   rw [valF_ge xs k (by rw [Uh hl1]; omega),Uh HV] at hv
   have ho:=hR.own
   rw [List.drop_eq_nil_of_le (by rw [Uh hl1]; omega),List.append_nil] at ho
   have hc1:=hR.cle
   have HC:=Hd hR.chg
   have hlen:zs.length = xs.length:=by rw [Uh hl1,hR.len]; exact hkn
   by_cases h0:c = 0
   ·have hz:¬ (0:Int) < (c:Int):=by omega
    rw [h0,Nat.mul_zero,Nat.add_zero] at hv
    rw [Uh HDN zs hR.ok hlen hv] at ho
    have HO:=Hd ho
    clear hR ho hv hkn h0
    go_wp2
    go_ret
    exact ⟨_,_,_,rfl,Uh HO,fun k hk => .inl hk,Uh HC⟩
   ·have hz:(0:Int) < (c:Int):=by omega
    have HE:=Hd (Uh HD1 zs c hR.ok (by omega) hlen (by rw [← hlen,hR.len]; exact hv))
    have HO:=Hd ho
    have HSZ:=Hd (show B ≤ wr.heap.size from Nat.le_trans hB (Uh HC).size)
    clear hR ho hv h0 hkn
    go_wp2_with (at_builtin; refine wpList_append_lies _ rfl _ _ 22 rfl B 43 i80 (.int .u32 0) 1 4 Tryz.underlying22 (Uh I80).1 (Uh I80).2.1 (Uh I80).2.2.1 (Uh I80).2.2.2 rfl (by decide) _ n (vals zs) rfl ((Uh HO).alloc _) ⟨wr.heap.size,0,none⟩ 1 1 [.int .u32 (c:Nat)] rfl rfl (World.news_of_block (alloc_block _ _)) one_int (by decide) ?c31C ?c41C ?c51C (wr.heap.size + 1) (by simp) ?_)
    case c31C => unfold maxLen; omega
    case c41C => omega
    case c51C => have:=Uh HSZ; simp; omega
    intro g1 cc w2 hown hgrow hat hlt2
    have e9:vals zs ++ [.int .u32 (c:Nat)] = vals (zs ++ [c]):=by simp [vals]
    rw [e9,Uh HE] at hown
    have HX:=Hd (show Ow w2 B (some ⟨g1,0,none⟩) (n + 1) cc V ∧ From2 w (some ⟨g,0,none⟩) (some ⟨g1,0,none⟩) ∧ Chg (fun j => AtB (some ⟨g,0,none⟩) j) w w2 from ⟨hown,fun k hk => by
      have:=atB_is hk
      subst this
      rcases hat with h | h
      ·left; exact atB_own.1 h
      ·right; have:=(Uh HC).size; omega,((Uh HC).trans (.of_alloc _ _)).trans (.of_grown hgrow (fun k hk => atB_own.1 hk))⟩)
    clear hown hgrow hat hlt2 HO e9
    go_wp2
    go_ret
    exact ⟨_,_,_,rfl,(Uh HX).1,(Uh HX).2.1,(Uh HX).2.2⟩

set_option maxHeartbeats 1000000 in
theorem wdouble_nil (B bit:Nat) (w:World) (hb:bit ≤ 1) (hB:B ≤ w.heap.size) :
  Calls Tryz.prog 165 #[.slice none 0 0,.int .u32 (bit:Nat)] w fun e w' => ∃ a' m c',e = .returned (.slice a' m c') ∧ Ow w' B a' m c' (limbs bit) ∧ From2 w none a' ∧ Chg (fun j => AtB none j) w w':=by
 obtain ⟨i80,hi80,hz80,hs80,hb80⟩:=info_parts Tryz.info_u32
 have I80:=Hd (And.intro hi80 (And.intro hz80 (And.intro hs80 hb80)))
 clear hi80 hz80 hs80 hb80
 obtain ⟨V,hV⟩:∃ V,limbs bit = V:=⟨_,rfl⟩
 have H0:=Hd (show bit = 0 → V = [] from fun h => by rw [← hV,h]; rfl)
 have H1:=Hd (show bit = 1 → V = [bit] from fun h => by rw [← hV,h]; rfl)
 rw [hV]
 clear hV
 go_enter Tryz.func165,Tryz.ntmps165
 go_wp2
 go_loop [1,5] (fun c i => c = .int .u32 (bit:Nat) ∧ i = .int .i64 0) (fun _ i => (intOf i).toNat)
 case atStart => exact ⟨rfl,rfl⟩
 case round =>
  obtain ⟨rfl,rfl⟩:=hrel
  by_cases h0:bit = 0
  ·have hz:¬ (0:Int) < (bit:Int):=by omega
   have HE:=Hd (Uh H0 h0)
   clear h0
   go_wp2
   go_ret
   exact ⟨none,0,0,rfl,by rw [Uh HE]; exact Ow.nil _ _,fun k hk => (atB_none hk).elim,Chg.refl _ _⟩
  ·have hz:(0:Int) < (bit:Int):=by omega
   have HE:=Hd (Uh H1 (by omega))
   clear h0
   go_wp2_with (at_builtin; refine wpList_append_lies _ rfl _ _ 22 rfl B 43 i80 (.int .u32 0) 1 4 Tryz.underlying22 (Uh I80).1 (Uh I80).2.1 (Uh I80).2.2.1 (Uh I80).2.2.2 rfl (by decide) _ 0 [] rfl (World.ownsRow_nil _ _ _ _) ⟨w.heap.size,0,none⟩ 1 1 [.int .u32 (bit:Nat)] rfl rfl (World.news_of_block (alloc_block _ _)) one_int (by decide) ?c31 ?c41 ?c51 (w.heap.size + 1) (by simp) ?_)
   case c31 => unfold maxLen; omega
   case c51 => first | omega | (simp; omega)
   intro g1 cc w2 hown hgrow hat hlt2
   have hX:Ow w2 B (some ⟨g1,0,none⟩) 1 cc V ∧ From2 w none (some ⟨g1,0,none⟩) ∧ Chg (fun j => AtB none j) w w2:=by
    refine ⟨by rw [Uh HE]; exact hown,fun k hk => ?_,(Chg.of_alloc _ _).trans (.of_grown hgrow (fun k hk => by cases hk))⟩
    have:=atB_is hk
    subst this
    rcases hat with h | h
    ·cases h
    ·right; omega
   have HX:=Hd hX
   clear hown hgrow hat hlt2 hX
   go_wp2
   go_ret
   exact ⟨_,_,_,rfl,(Uh HX).1,(Uh HX).2.1,(Uh HX).2.2⟩

theorem wdouble_any (a:Option Addr) (B n cp v bit:Nat) (w:World) (h1:Ow w B a n cp (limbs v)) (hb:bit ≤ 1) (hn:n ≤ 1000000000) (hB:B ≤ w.heap.size) :
  Calls Tryz.prog 165 #[.slice a n cp,.int .u32 (bit:Nat)] w fun e w' => ∃ a' m c',e = .returned (.slice a' m c') ∧ Ow w' B a' m c' (limbs (2 * v + bit)) ∧ From2 w a a' ∧ Chg (fun j => AtB a j) w w':=by
 rcases h1.shape with ⟨rfl,rfl,rfl⟩ | ⟨g,rfl⟩
 ·have hv:v = 0:=limbs_eq_nil.1 (List.eq_nil_of_length_eq_zero h1.len)
  subst hv
  have:=wdouble_nil B bit w hb hB
  simpa using this
 ·exact wdouble_some g B n cp v bit w h1 hb hn hB
end Go.Proofs.YtlolnaegfponeaaGreatDoor
