/- Wr8 -/
import Derived.Test.YtmnlhnmlgncedaaGreatDoorWr4
import Derived.Test.YtmnlhnmlgncedaaGreatDoorDv2
import Derived.Test.YtmnlhnmlgncedaaGreatDoorWr2
import Derived.Test.YtmnlhnmlgncedaaGreatDoorShl
import Derived.Test.YtmnlhnmlgncedaaGreatDoorUpd
namespace Go.Proofs.YtmnlhnmlgncedaaGreatDoor
open Go.RowKit Go.Deep
set_option linter.unusedVariables false
structure ShrR (wr w:World) (bq n:Nat) (xs:List Nat) (d k r:Nat) (g:Nat → Nat):Prop where
 fn:Fn wr bq 0 n g
 ok:∀ i,i < n → g i < 4294967296
 rlt:r < d
 val:valF (fun i => xs.getD (k + i) 0) (n - k) = valF (fun i => g (k + i)) (n - k) * d + r
 bel:Below w.heap.size w wr

theorem ShrR.step {wr w:World} {bq n:Nat} {xs:List Nat} {d k r:Nat} {g:Nat → Nat} (h:ShrR wr w bq n xs d (k + 1) r g) (ox:Ok xs) (hk:k < n) (hb:w.heap.size ≤ bq) :
  ShrR (wr.setCell ⟨bq,k,none⟩ (.int .u32 (dv (xs.getD k 0) r / d:Nat))) w bq n xs d k (dv (xs.getD k 0) r % d) (fun i => if i = k then dv (xs.getD k 0) r / d else g i):=by
 have hq:=dv_div_lt (ox.getD k) h.rlt
 have hs:=h.fn.set k (dv (xs.getD k 0) r / d) hk
 rw [Nat.zero_add] at hs
 refine ⟨hs,?_,Nat.mod_lt _ (by have:=h.rlt; omega),?_,h.bel.setCell hb _⟩
 ·intro i hi
  by_cases e:i = k
  ·simp only [e,if_true]; exact hq
  ·simp only [e,if_false]; exact h.ok i hi
 ·rw [valF_head (fun i => xs.getD i 0) k n hk,valF_head (fun i => if i = k then dv (xs.getD k 0) r / d else g i) k n hk]
  simp only [if_true]
  have e0:valF (fun i => if k + 1 + i = k then dv (xs.getD k 0) r / d else g (k + 1 + i)) (n - (k + 1)) = valF (fun i => g (k + 1 + i)) (n - (k + 1)):=valF_congr (fun i _ => by rw [if_neg (by omega)])
  rw [e0]
  refine dl_arith h.val ?_
  have:=Nat.div_add_mod (dv (xs.getD k 0) r) d
  unfold dv at *
  omega

def ShPost (w w':World) (q r:Nat) (e:Ending):Prop:=∃ a m c,e = .returned (.tuple #[.slice a m c,.int .u32 (r:Nat)]) ∧ Sl w' a m c (limbs q) ∧ NewAt w.heap.size a ∧ (a = none → c = 0) ∧ Below w.heap.size w w'

set_option maxRecDepth 100000 in
set_option maxHeartbeats 4000000 in
theorem wshort_any (a:Option Addr) (n c d:Nat) (xs:List Nat) (w:World) (h:Sl w a n c xs) (ox:Ok xs) (hn:n ≤ 1000000000) (hd0:0 < d) (hd:d < 4294967296) :
  Calls Tryz.prog 192 #[.slice a n c,.int .u32 (d:Nat)] w fun e w' => ShPost w w' (val xs / d) (val xs % d) e:=by
 have hmk:=make_len n (by omega)
 have bel0:=(Below.refl w.heap.size w).alloc (Nat.le_refl _) (.cells (madeCells #[.int .u32 0] n) 84)
 have HR0:=Hj (show ShrR (w.alloc (.cells (madeCells #[.int .u32 0] n) 84)) w w.heap.size n xs d n 0 (fun _ => 0) from ⟨Fn.made w n _,fun _ _ => by decide,hd0,by simp [valF],bel0⟩)
 have HL:=Hj h.len
 have HS:=Hj h
 obtain ⟨Q,hQ⟩:∃ Q,val xs / d = Q:=⟨_,rfl⟩
 obtain ⟨R,hR⟩:∃ R,val xs % d = R:=⟨_,rfl⟩
 have HQ:=Hj (show ∀ q r,r < d → val xs = q * d + r → q = Q ∧ r = R from fun q r h1 h2 => by
  have:=(Nat.div_mod_unique hd0).2 ⟨(show r + d * q = val xs by rw [Nat.mul_comm]; omega),h1⟩
  exact ⟨by rw [← hQ]; exact this.1.symm,by rw [← hR]; exact this.2.symm⟩)
 rw [hQ,hR]
 clear h bel0 hQ hR
 have t2:((d:Int) != 0) = true:=by rw [bne_iff_ne]; omega
 have t3:((d:Int) == 0) = false:=by simp; omega
 have t4:¬ (d:Int) = 0:=by omega
 go_enter Tryz.func192,Tryz.ntmps192
 go_wp2_with fail
 go_loopw [7,8] (fun cv i wr => ∃ k r:Nat,∃ g:Nat → Nat,k ≤ n ∧ i = .int .i64 ((k:Int) - 1) ∧ cv = .int .u64 (r:Nat) ∧ ShrR wr w w.heap.size n xs d k r g) (fun _ i _ => (intOf i + 1).toNat)
 case atStart => exact ⟨n,0,_,Nat.le_refl _,rfl,rfl,Uh HR0⟩
 case round =>
  clear HR0
  obtain ⟨k,r,g,hk,rfl,rfl,hR⟩:=hrel
  rcases k with _ | k
  ·have t1:¬ (0:Int) ≤ ((0:Nat):Int) - 1:=by omega
   have hv:=hR.val
   simp only [Nat.zero_add,Nat.sub_zero] at hv
   rw [valF_ge xs n (by rw [Uh HL]; exact Nat.le_refl _)] at hv
   obtain ⟨e1,e2⟩:=Uh HQ _ _ hR.rlt hv
   have hrb:=hR.rlt
   have K:=wnorm_sl (some ⟨w.heap.size,0,none⟩) n n _ wr (hR.fn.sl (Nat.le_refl _) (by unfold maxLen; omega)) (by intro e; cases e) (lst_ok hR.ok)
   rw [lst_val,e1] at K
   have HK:=Hj K
   have HB:=Hj hR.bel
   have E2:=Hj e2
   clear K hR hv e1 e2
   go_wp2_with fail
   refine (Uh HK).mono ?_
   rintro e w' ⟨m,rfl,hm,hO,hw⟩
   obtain rfl:=hw.symm
   have HO:=Hj hO
   clear hO hw HK
   go_wp2_with fail
   go_ret2
   rw [← Uh E2]
   exact ⟨_,_,_,rfl,Uh HO,fun x hx => by cases hx; exact Nat.le_refl _,(by intro e; cases e),Uh HB⟩
  ·have t0:((k + 1:Nat):Int) - 1 = (k:Int):=by omega
   rw [t0]
   have t1:(k:Int) < (n:Int):=by omega
   have hne:xs ≠ []:=by intro e; have:=Uh HL; rw [e] at this; simp at this; omega
   obtain ⟨b,off,e0,hc⟩:=((Uh HS).below hR.bel).cells.resolve_left hne
   subst e0
   have g0:=hc k (by rw [Uh HL]; omega)
   have g1:=(hR.fn k (by omega)).1
   have g2:=(hR.fn k (by omega)).2
   rw [Nat.zero_add] at g1 g2
   have HN:=Hj (hR.step ox (by omega) (Nat.le_refl _))
   have bx:=ox.getD k
   have br:=hR.rlt
   have e0:=or_halves r (xs.getD k 0) (by omega) bx
   have hq:=dv_div_lt bx br
   have hrl:dv (xs.getD k 0) r % d < d:=Nat.mod_lt _ hd0
   have hdv:(xs.getD k 0) + 4294967296 * r = dv (xs.getD k 0) r:=rfl
   rw [hdv] at e0
   have hz:=dv_lt bx (show r < 4294967296 by omega)
   generalize dv (xs.getD k 0) r = z at *
   have e1:((z:Nat):Int).tdiv (d:Int) = ((z / d:Nat):Int):=by rw [Int.tdiv_eq_ediv_of_nonneg (by omega)]; exact (Int.natCast_ediv _ _).symm
   have e2:((z:Nat):Int).tmod (d:Int) = ((z % d:Nat):Int):=by rw [Int.tmod_eq_emod_of_nonneg (by omega)]; exact (Int.natCast_emod _ _).symm
   have e3:((z:Nat):Int) / (d:Int) = ((z / d:Nat):Int):=(Int.natCast_ediv _ _).symm
   have e4:((z:Nat):Int) % (d:Int) = ((z % d:Nat):Int):=(Int.natCast_emod _ _).symm
   generalize z / d = q at *
   generalize z % d = r' at *
   generalize xs.getD k 0 = x at *
   clear hR hc hne hdv
   go_wp2
   exact ⟨⟨k,_,_,by omega,by go_num,rfl,Uh HN⟩,by simp [intOf]⟩

theorem wor_low {c y s:Nat} (hs:s < 32) (hc:c < 2 ^ s) (hy:y < 4294967296):bits .or .u64 (c:Int) ((y * 2 ^ s:Nat):Int) = ((y * 2 ^ s + c:Nat):Int) ∧ y * 2 ^ s + c < 18446744073709551616:=by
 have hp:=(pow_s hs)
 have hb:y * 2 ^ s ≤ 4294967295 * 2147483648:=Nat.mul_le_mul (by omega) hp.2
 refine ⟨?_,by omega⟩
 rw [u64_or_nat _ _ (by omega) (by omega)]
 congr 1
 have h:=Nat.shiftLeft_add_eq_or_of_lt (i:=s) (b:=c) hc y
 rw [Nat.shiftLeft_eq] at h
 rw [Nat.or_comm,← h]

structure RaR (wr w:World) (L s t:Nat) (v:Value) (k c:Nat) (zs:List Nat):Prop where
 len:zs.length = L + k
 ok:Ok zs
 clt:c < 2 ^ s
 own:wr.ownsRow w.heap.size 84 1 v (L + k) (vals zs)
 val:val zs + 4294967296 ^ (L + k) * c = 4294967296 ^ L * (t * 2 ^ s)
 bel:Below w.heap.size w wr

theorem RaR.step {wr w w1:World} {L s t:Nat} {v v':Value} {k c:Nat} {zs:List Nat} {o:Obj} (h:RaR wr w L s t v k c zs) (y:Nat) (hy:y < 4294967296) (hs:s < 32)
  (hown:w1.ownsRow w.heap.size 84 1 v' (L + k + 1) (vals zs ++ [.int .u32 ((y * 2 ^ s + c) % 4294967296:Nat)])) (hg:(wr.alloc o).grownBy w1 v.ownBlock) :
  RaR w1 w L s (t + 4294967296 ^ k * y) v' (k + 1) ((y * 2 ^ s + c) / 4294967296) (zs ++ [(y * 2 ^ s + c) % 4294967296]):=by
 have hz:=h.bel.size
 have hp:=pow_s hs
 refine ⟨by simp [h.len]; omega,?_,?_,by simpa [vals,Nat.add_assoc] using hown,?_,Below.grown (h.bel.alloc (by omega) o) hg (by simp; omega) (fun k hk => (own_ge h.own k hk).1)⟩
 ·intro z hz
  rcases List.mem_append.1 hz with hz | hz
  ·exact h.ok z hz
  ·simp at hz; subst hz; omega
 ·have hc:=h.clt
  rw [Nat.div_lt_iff_lt_mul (by decide)]
  have:(y + 1) * 2 ^ s ≤ 4294967296 * 2 ^ s:=Nat.mul_le_mul_right _ hy
  rw [Nat.add_mul,Nat.one_mul] at this
  rw [Nat.mul_comm (2 ^ s)]
  omega
 ·rw [val_append,h.len]
  simp only [Go.Proofs.YtmnlhnmlgncedaaGreatDoor.val,Nat.mul_zero,Nat.add_zero]
  have e:=Nat.div_add_mod (y * 2 ^ s + c) 4294967296
  rw [show L + (k + 1) = L + k + 1 from rfl,Nat.pow_succ]
  have h1:4294967296 ^ (L + k) * ((y * 2 ^ s + c) % 4294967296) + 4294967296 ^ (L + k) * 4294967296 * ((y * 2 ^ s + c) / 4294967296) = 4294967296 ^ (L + k) * (y * 2 ^ s) + 4294967296 ^ (L + k) * c:=by
   rw [Nat.mul_assoc,← Nat.mul_add,Nat.add_comm ((y * 2 ^ s + c) % 4294967296),e,Nat.mul_add]
  have h2:4294967296 ^ L * ((t + 4294967296 ^ k * y) * 2 ^ s) = 4294967296 ^ L * (t * 2 ^ s) + 4294967296 ^ (L + k) * (y * 2 ^ s):=by
   rw [Nat.add_mul,Nat.mul_add,Nat.pow_add,Nat.mul_assoc,Nat.mul_assoc]
  have:=h.val
  omega

set_option maxRecDepth 100000 in
set_option maxHeartbeats 4000000 in
theorem wraise_core (a:Option Addr) (n c:Nat) (xs:List Nat) (w:World) (k l s:Nat) (hsl:Sl w a n c xs) (ox:Ok xs) (hx:xs ≠ []) (hkl:(k:Int) / 32 = (l:Int)) (hks:(k:Int) % 32 = (s:Int)) (hs32:s < 32) (hk0:k ≤ 10000000000) (hn2:n ≤ 1000000000) :
  Calls Tryz.prog 186 #[.slice a n c,.int .i64 (k:Nat)] w fun e w' => NewL w w' (val xs * 2 ^ k) e:=by
 have hl2:(k:Int).tdiv 32 = (l:Int):=by rw [Int.tdiv_eq_ediv_of_nonneg (by omega)]; exact hkl
 have hs2:(k:Int).tmod 32 = (s:Int):=by rw [Int.tmod_eq_emod_of_nonneg (by omega)]; exact hks
 have hl0:l ≤ 1000000000:=by omega
 have hn0:0 < n:=by rw [← hsl.len]; exact List.length_pos_iff.2 hx
 have t0:((n:Int) == 0) = false:=by simp; omega
 have hmk:=make_len l (by omega)
 have hp:=pow_s hs32
 have bel0:=(Below.refl w.heap.size w).alloc (Nat.le_refl _) (.cells (madeCells #[.int .u32 0] l) 84)
 have hv0:∀ j,val (List.replicate j 0) = 0:=fun j => val_zero _ (fun i => by simp [List.getD,List.getElem?_replicate]; split <;> rfl)
 have HR0:=Hj (show RaR (w.alloc (.cells (madeCells #[.int .u32 0] l) 84)) w l s (valF (fun i => xs.getD i 0) 0) (.slice (some ⟨w.heap.size,0,none⟩) l l) 0 0 (List.replicate l 0) from ⟨by simp,fun z hz => by rw [(List.mem_replicate.1 hz).2]; decide,by omega,Ow.made w l (by omega),by simp [valF,hv0],bel0⟩)
 have HT:=Hj (sh_total (v:=val xs) (show k / 32 = l by omega) (show k % 32 = s by omega))
 have HL:=Hj hsl.len
 have HS0:=Hj hsl
 obtain ⟨V,hV⟩:∃ V,val xs * 2 ^ k = V:=⟨_,rfl⟩
 rw [hV] at HT ⊢
 obtain ⟨i80,hi80,hz80,hs80,hb80⟩:=info_parts Tryz.info_u32
 have I80:=Hj (And.intro hi80 (And.intro hz80 (And.intro hs80 hb80)))
 clear hi80 hz80 hs80 hb80 hsl bel0 hv0 hV
 go_enter Tryz.func186,Tryz.ntmps186
 go_wp2_with fail
 go_loopw [5,7,8] (fun v cv i wr => ∃ j cc:Nat,∃ zs:List Nat,j ≤ n ∧ i = .int .i64 (j:Nat) ∧ cv = .int .u64 (cc:Nat) ∧ RaR wr w l s (valF (fun i => xs.getD i 0) j) v j cc zs) (fun _ _ i _ => n - (intOf i).toNat)
 case atStart => exact ⟨0,0,_,Nat.zero_le _,rfl,rfl,Uh HR0⟩
 case round =>
  clear HR0
  obtain ⟨j,cy,zs,hj,rfl,rfl,hR⟩:=hrel
  have hcy:=hR.clt
  by_cases hlt:j < n
  ·have hlt':(j:Int) < (n:Int):=by omega
   obtain ⟨b,off,e0,hc⟩:=((Uh HS0).below hR.bel).cells.resolve_left hx
   subst e0
   have g1:=hc j (by rw [Uh HL]; omega)
   have bx:=ox.getD j
   obtain ⟨e1,b1⟩:=wor_low hs32 hcy bx
   have HS:=Hj (fun w1 v' o hown hg => (show RaR w1 w l s (valF (fun i => xs.getD i 0) (j + 1)) v' (j + 1) _ _ from RaR.step (w1:=w1) (v':=v') (o:=o) hR (xs.getD j 0) bx hs32 hown hg))
   have HSZ:=Hj hR.bel.size
   have HR:=Hj hR
   have hb2:xs.getD j 0 * 2 ^ s ≤ 4294967295 * 2147483648:=Nat.mul_le_mul (by omega) hp.2
   have e0:((xs.getD j 0:Nat):Int) * 2 ^ s = ((xs.getD j 0 * 2 ^ s:Nat):Int):=by rw [Int.natCast_mul,Int.natCast_pow]; rfl
   have e00:((xs.getD j 0:Nat):Int) * 2 ^ s % 18446744073709551616 = ((xs.getD j 0 * 2 ^ s:Nat):Int):=by rw [e0]; omega
   have e5:IntKind.u64.wrap (((xs.getD j 0:Nat):Int) * 2 ^ s) = ((xs.getD j 0 * 2 ^ s:Nat):Int):=by rw [e0,IntKind.wrap_u64]; omega
   clear hR hc HS0
   generalize xs.getD j 0 * 2 ^ s = y at *
   generalize y + cy = z at *
   have e2:((z:Nat):Int) % 4294967296 = ((z % 4294967296:Nat):Int):=by omega
   have e3:((z:Nat):Int) / 4294967296 = ((z / 4294967296:Nat):Int):=by omega
   have b4:z % 4294967296 < 4294967296:=by omega
   have b5:z / 4294967296 < 4294967296:=by omega
   generalize z % 4294967296 = z1 at *
   generalize z / 4294967296 = z2 at *
   generalize xs.getD j 0 = x at *
   go_wp2_with (at_builtin; refine wpList_append_lies _ rfl _ _ 22 rfl w.heap.size 84 i80 (.int .u32 0) 1 4 Tryz.underlying22 (Uh I80).1 (Uh I80).2.1 (Uh I80).2.2.1 (Uh I80).2.2.2 rfl (by decide) _ (l + j) (vals zs) rfl ((Uh HR).own.alloc _) ⟨wr.heap.size,0,none⟩ 1 1 [.int .u32 (z1:Nat)] rfl rfl (World.news_of_block (alloc_block _ _)) one_int (by decide) ?c31A ?c41A ?c51A (wr.heap.size + 1) (by simp) ?_)
   case c31A => unfold maxLen; omega
   case c41A => omega
   case c51A => have:=Uh HSZ; simp; omega
   intro g1 cc w2 hown hgrow hat hlt2
   have HN:=Hj (Uh HS w2 _ _ hown hgrow)
   clear hown hgrow hat hlt2 HS HR
   go_wp2
   exact ⟨⟨j + 1,_,_,by omega,by go_num,rfl,Uh HN⟩,by simp [intOf]; omega⟩
  ·have hlt':¬ (j:Int) < (n:Int):=by omega
   have hjn:j = n:=by omega
   have hv:=hR.val
   rw [valF_ge xs j (by rw [Uh HL]; omega)] at hv
   have HV:=Hj (show val (zs ++ [cy]) = V by
    rw [val_append,hR.len]
    simp only [val,Nat.mul_zero,Nat.add_zero]
    rw [hv,← Uh HT,Nat.mul_comm])
   have HOK:=Hj (show Ok (zs ++ [cy]) from fun z hz => by
    rcases List.mem_append.1 hz with hz | hz
    ·exact hR.ok z hz
    ·simp at hz; subst hz; omega)
   have hcb:cy < 4294967296:=by omega
   have HSZ:=Hj hR.bel.size
   have HR:=Hj hR
   clear hR hv hjn
   go_wp2_with (at_builtin; refine wpList_append_lies _ rfl _ _ 22 rfl w.heap.size 84 i80 (.int .u32 0) 1 4 Tryz.underlying22 (Uh I80).1 (Uh I80).2.1 (Uh I80).2.2.1 (Uh I80).2.2.2 rfl (by decide) _ (l + j) (vals zs) rfl ((Uh HR).own.alloc _) ⟨wr.heap.size,0,none⟩ 1 1 [.int .u32 (cy:Nat)] rfl rfl (World.news_of_block (alloc_block _ _)) one_int (by decide) ?c31B ?c41B ?c51B (wr.heap.size + 1) (by simp) ?_)
   case c31B => unfold maxLen; omega
   case c41B => omega
   case c51B => have:=Uh HSZ; simp; omega
   intro g1 cc w2 hown hgrow hat hlt2
   have e9:vals zs ++ [.int .u32 (cy:Nat)] = vals (zs ++ [cy]):=by simp [vals]
   rw [e9] at hown
   have K:=wnorm_any (some ⟨g1,0,none⟩) (l + j + 1) cc w.heap.size _ w2 hown (Uh HOK)
   rw [Uh HV] at K
   have HK:=Hj K
   have HB:=Hj (Below.grown ((Uh HR).bel.alloc (Uh HSZ) _) hgrow (by have:=Uh HSZ; simp; omega) (fun k hk => (own_ge (Uh HR).own k hk).1))
   clear K hown hgrow hat hlt2 e9 HR
   go_wp2_with fail
   refine (Uh HK).mono ?_
   rintro e w' ⟨m,rfl,hm,hO,hw⟩
   obtain rfl:=hw.symm
   have HO:=Hj hO
   clear hO hw HK
   go_wp2_with fail
   go_ret
   exact ⟨_,_,_,rfl,(Uh HO).sl,(Uh HO).new,(Uh HO).nilc,Uh HB⟩

set_option maxHeartbeats 400000 in
theorem wraise_nil (a:Option Addr) (c:Nat) (k:Int) (w:World):Calls Tryz.prog 186 #[.slice a 0 c,.int .i64 k] w fun e w' => e = .returned (.slice none 0 0) ∧ w' = w:=by
 go_enter Tryz.func186,Tryz.ntmps186
 go_wp2
 go_ret
 exact ⟨rfl,rfl⟩

theorem wraise_any (a:Option Addr) (n c:Nat) (xs:List Nat) (w:World) (k:Nat) (hsl:Sl w a n c xs) (ox:Ok xs) (hk0:k ≤ 10000000000) (hn2:n ≤ 1000000000) :
  Calls Tryz.prog 186 #[.slice a n c,.int .i64 (k:Nat)] w fun e w' => NewL w w' (val xs * 2 ^ k) e:=by
 by_cases hx:xs = []
 ·have hn:n = 0:=by rw [← hsl.len,hx]; rfl
  subst hn
  refine (wraise_nil a c k w).mono ?_
  rintro e w' ⟨rfl,rfl⟩
  subst hx
  have:val [] * 2 ^ k = 0:=by simp [val]
  rw [this]
  exact ⟨none,0,0,rfl,sl_nil _,newAt_nil _,fun _ => rfl,Below.refl _ _⟩
 ·exact wraise_core a n c xs w k (k / 32) (k % 32) hsl ox hx (by omega) (by omega) (by omega) hk0 hn2



def digitN (c:Nat):Nat:=if 48 ≤ c ∧ c ≤ 57 then c - 48 else if 97 ≤ c ∧ c ≤ 122 then c - 97 + 10 else if 65 ≤ c ∧ c ≤ 90 then c - 65 + 10 else 36
theorem digitN_le (c:Nat):digitN c ≤ 36:=by
 unfold digitN
 split
 ·omega
 ·split
  ·omega
  ·split <;> omega
theorem digit_ways (c:Nat):(c < 48 ∧ digitN c = 36) ∨ (48 ≤ c ∧ c ≤ 57 ∧ (digitN c:Int) = c - 48) ∨ (57 < c ∧ c < 65 ∧ digitN c = 36) ∨ (65 ≤ c ∧ c ≤ 90 ∧ (digitN c:Int) = c - 65 + 10) ∨ (90 < c ∧ c < 97 ∧ digitN c = 36) ∨ (97 ≤ c ∧ c ≤ 122 ∧ (digitN c:Int) = c - 97 + 10) ∨ (122 < c ∧ digitN c = 36):=by
 unfold digitN
 split
 ·right; left; omega
 ·split
  ·right; right; right; right; right; left; omega
  ·split
   ·right; right; right; left; omega
   ·omega

set_option maxHeartbeats 4000000 in
theorem ndigit_any (c:Nat) (hc:c < 256) (w:World) :
  Calls Tryz.prog 170 #[.int .u8 (c:Nat)] w fun e w' => e = .returned (.int .i64 (digitN c:Nat)) ∧ w' = w:=by
 have HW:=digit_ways c
 generalize digitN c = D at HW ⊢
 rcases HW with ⟨h1,rfl⟩ | ⟨h1,h2,h3⟩ | ⟨h1,h2,rfl⟩ | ⟨h1,h2,h3⟩ | ⟨h1,h2,rfl⟩ | ⟨h1,h2,h3⟩ | ⟨h1,rfl⟩
 ·have a1:(c:Int) < 48:=by omega
  clear h1
  go_enter Tryz.func170,Tryz.ntmps170
  go_wp2_with fail
  go_ret
  exact ⟨rfl,rfl⟩
 ·have a1:48 ≤ (c:Int):=by omega
  have a2:(c:Int) ≤ 57:=by omega
  have H3:=Hj h3
  clear h1 h2 h3
  go_enter Tryz.func170,Tryz.ntmps170
  go_wp2_with fail
  go_ret
  exact ⟨by rw [Uh H3]; rfl,rfl⟩
 ·have a1:57 < (c:Int):=by omega
  have a2:(c:Int) < 65:=by omega
  clear h1 h2
  go_enter Tryz.func170,Tryz.ntmps170
  go_wp2_with fail
  go_ret
  exact ⟨rfl,rfl⟩
 ·have a1:65 ≤ (c:Int):=by omega
  have a2:(c:Int) ≤ 90:=by omega
  have H3:=Hj h3
  clear h1 h2 h3
  go_enter Tryz.func170,Tryz.ntmps170
  go_wp2_with fail
  go_ret
  exact ⟨by rw [Uh H3]; rfl,rfl⟩
 ·have a1:90 < (c:Int):=by omega
  have a2:(c:Int) < 97:=by omega
  clear h1 h2
  go_enter Tryz.func170,Tryz.ntmps170
  go_wp2_with fail
  go_ret
  exact ⟨rfl,rfl⟩
 ·have a1:97 ≤ (c:Int):=by omega
  have a2:(c:Int) ≤ 122:=by omega
  have H3:=Hj h3
  clear h1 h2 h3
  go_enter Tryz.func170,Tryz.ntmps170
  go_wp2_with fail
  go_ret
  exact ⟨by rw [Uh H3]; rfl,rfl⟩
 ·have a1:122 < (c:Int):=by omega
  clear h1
  go_enter Tryz.func170,Tryz.ntmps170
  go_wp2_with fail
  go_ret
  exact ⟨rfl,rfl⟩

open Go.RowKit Go.Deep
set_option linter.unusedVariables false

structure Chunk (b c:Nat):Prop where
 pos:1 ≤ c
 le:c ≤ 31
 lt:b ^ c < 4294967296
 ge:4294967296 ≤ b ^ c * b

def ChPost (b:Nat) (w:World) (e:Ending) (w':World):Prop :=
 ∃ c,Chunk b c ∧ e = .returned (.tuple #[.int .i64 (c:Nat),.int .u32 (b ^ c:Nat)]) ∧ w' = w

theorem chunk_le {b c:Nat} (hb:2 ≤ b) (h:b ^ c < 4294967296):c ≤ 31:=by
 have h1:2 ^ c ≤ b ^ c:=Nat.pow_le_pow_left hb c
 have h2:2 ^ c < 2 ^ 32:=Nat.lt_of_le_of_lt h1 h
 have:=(Nat.pow_lt_pow_iff_right (by decide:1 < 2)).1 h2
 omega

set_option maxHeartbeats 4000000 in
theorem chunk_any (b:Nat) (hb:2 ≤ b) (hb2:b ≤ 36) (w:World) :
  Calls Tryz.prog 165 #[.int .i64 (b:Nat)] w fun e w' => ChPost b w e w':=by
 go_enter Tryz.func165,Tryz.ntmps165
 go_wp2_with fail
 go_loop [4,5] (fun cv wv => ∃ c:Nat,1 ≤ c ∧ b ^ c < 4294967296 ∧ cv = .int .i64 (c:Nat) ∧ wv = .int .u64 (b ^ c:Nat)) (fun cv _ => 32 - (intOf cv).toNat)
 case atStart => exact ⟨1,Nat.le_refl _,by simp; omega,rfl,by simp⟩
 case round =>
  obtain ⟨c,hc,hlt,rfl,rfl⟩:=hrel
  have hc31:=chunk_le hb hlt
  have hb36:b ^ c * b ≤ b ^ c * 36:=Nat.mul_le_mul_left _ hb2
  obtain ⟨p,hp⟩:∃ p,b ^ c * b = p:=⟨_,rfl⟩
  have hp1:b ^ (c + 1) = p:=by rw [Nat.pow_succ,hp]
  obtain ⟨W,hW⟩:∃ W,b ^ c = W:=⟨_,rfl⟩
  rw [hW] at hb36 hlt hp
  have e1:(W:Int) * (b:Int) = (p:Int):=by rw [← hp,Int.natCast_mul]
  rw [hp] at hb36
  have hp64:p < 18446744073709551616:=by omega
  have HW:=Hj hW
  have HP:=Hj hp1
  have HQ:=Hj hp
  by_cases hs:p < 4294967296
  ·have q1:(p:Int) / 4294967296 = 0:=by omega
   rw [hW]
   clear hW hp1 hp
   go_wp2_with fail
   exact ⟨⟨c + 1,by omega,by rw [Uh HP]; exact hs,by go_num,by rw [Uh HP]⟩,by simp [intOf]; omega⟩
  ·obtain ⟨q,hq⟩:∃ q,p / 4294967296 = q:=⟨_,rfl⟩
   have q1:(p:Int) / 4294967296 = (q:Int):=by omega
   have q2:((q:Int) == 0) = false:=by simp; omega
   have q3:¬ (q:Int) = 0:=by omega
   rw [hW]
   clear hW hp1 hp hq
   go_wp2_with fail
   go_ret2
   have HR:b ^ c * b = p:=by rw [Uh HW]; exact Uh HQ
   refine ⟨c,⟨hc,hc31,by rw [Uh HW]; exact hlt,by rw [HR]; omega⟩,by rw [Uh HW]; rfl,rfl⟩

set_option maxHeartbeats 4000000 in
theorem isBase_any (b:Int) (w:World) :
  Calls Tryz.prog 117 #[.int .i64 b] w fun e w' => e = .returned (.bool (decide (2 ≤ b ∧ b ≤ 36))) ∧ w' = w:=by
 by_cases h1:2 ≤ b
 ·by_cases h2:b ≤ 36
  ·go_enter Tryz.func117,Tryz.ntmps117
   go_wp2_with fail
   go_ret
   simp [h1,h2]
  ·go_enter Tryz.func117,Tryz.ntmps117
   go_wp2_with fail
   go_ret
   simp; omega
 ·go_enter Tryz.func117,Tryz.ntmps117
  go_wp2_with fail
  go_ret
  simp; omega
end Go.Proofs.YtmnlhnmlgncedaaGreatDoor
