/- Wr8 -/
import Derived.Test.YtncolonhdjkglaaGreatDoorWr4
import Derived.Test.YtncolonhdjkglaaGreatDoorBy6
import Derived.Test.YtncolonhdjkglaaGreatDoorPr3
namespace Go.Proofs.YtncolonhdjkglaaGreatDoor
open Go.RowKit Go.Deep
set_option linter.unusedVariables false
structure ShrR (wr w:World) (bq n:Nat) (xs:List Nat) (d k r:Nat) (g:Nat → Nat):Prop where
 fn:Fn wr bq 0 n g
 ok:∀ i,i < n → g i < 4294967296
 rlt:r < d
 val:valF (fun i => xs.getD (k + i) 0) (n - k) = valF (fun i => g (k + i)) (n - k) * d + r
 bel:Below w.heap.size w wr

theorem ShrR.step {wr w:World} {bq n:Nat} {xs:List Nat} {d k r:Nat} {g:Nat → Nat} (h:ShrR wr w bq n xs d (k + 1) r g) (ox:Ok xs) (hk:k < n) (hb:w.heap.size ≤ bq) :
  ShrR (wr.setCell ⟨bq,k,none⟩ (.int .u32 (dv (xs.getD k 0) r / d:Nat))) w bq n xs d k (dv (xs.getD k 0) r % d) (fun i => if i = k then dv (xs.getD k 0) r / d else g i):=by
 have hq:=dv_div_lt (ox.getD k) h.rlt
 have hs:=h.fn.set k (dv (xs.getD k 0) r / d) hk
 rw [Nat.zero_add] at hs
 refine ⟨hs,?_,Nat.mod_lt _ (by have:=h.rlt; omega),?_,h.bel.setCell hb _⟩
 ·intro i hi
  by_cases e:i = k
  ·simp only [e,if_true]; exact hq
  ·simp only [e,if_false]; exact h.ok i hi
 ·rw [valF_head (fun i => xs.getD i 0) k n hk,valF_head (fun i => if i = k then dv (xs.getD k 0) r / d else g i) k n hk]
  simp only [if_true]
  have e0:valF (fun i => if k + 1 + i = k then dv (xs.getD k 0) r / d else g (k + 1 + i)) (n - (k + 1)) = valF (fun i => g (k + 1 + i)) (n - (k + 1)):=valF_congr (fun i _ => by rw [if_neg (by omega)])
  rw [e0]
  refine dl_arith h.val ?_
  have:=Nat.div_add_mod (dv (xs.getD k 0) r) d
  unfold dv at *
  omega

def ShPost (w w':World) (q r:Nat) (e:Ending):Prop:=∃ a m c,e = .returned (.tuple #[.slice a m c,.int .u32 (r:Nat)]) ∧ Sl w' a m c (limbs q) ∧ NewAt w.heap.size a ∧ (a = none → c = 0) ∧ Below w.heap.size w w'

set_option maxRecDepth 100000 in
set_option maxHeartbeats 4000000 in
theorem wshort_any (a:Option Addr) (n c d:Nat) (xs:List Nat) (w:World) (h:Sl w a n c xs) (ox:Ok xs) (hn:n ≤ 1000000000) (hd0:0 < d) (hd:d < 4294967296) :
  Calls Tryz.prog 53 #[.slice a n c,.int .u32 (d:Nat)] w fun e w' => ShPost w w' (val xs / d) (val xs % d) e:=by
 have hmk:=make_len n (by omega)
 have bel0:=(Below.refl w.heap.size w).alloc (Nat.le_refl _) (.cells (madeCells #[.int .u32 0] n) 64)
 have HR0:=Hd (show ShrR (w.alloc (.cells (madeCells #[.int .u32 0] n) 64)) w w.heap.size n xs d n 0 (fun _ => 0) from ⟨Fn.made w n _,fun _ _ => by decide,hd0,by simp [valF],bel0⟩)
 have HL:=Hd h.len
 have HS:=Hd h
 obtain ⟨Q,hQ⟩:∃ Q,val xs / d = Q:=⟨_,rfl⟩
 obtain ⟨R,hR⟩:∃ R,val xs % d = R:=⟨_,rfl⟩
 have HQ:=Hd (show ∀ q r,r < d → val xs = q * d + r → q = Q ∧ r = R from fun q r h1 h2 => by
  have:=(Nat.div_mod_unique hd0).2 ⟨(show r + d * q = val xs by rw [Nat.mul_comm]; omega),h1⟩
  exact ⟨by rw [← hQ]; exact this.1.symm,by rw [← hR]; exact this.2.symm⟩)
 rw [hQ,hR]
 clear h bel0 hQ hR
 have t2:((d:Int) != 0) = true:=by rw [bne_iff_ne]; omega
 have t3:((d:Int) == 0) = false:=by simp; omega
 have t4:¬ (d:Int) = 0:=by omega
 go_enter Tryz.func53,Tryz.ntmps53
 go_wp2_with fail
 go_loopw [7,8] (fun cv i wr => ∃ k r:Nat,∃ g:Nat → Nat,k ≤ n ∧ i = .int .i64 ((k:Int) - 1) ∧ cv = .int .u64 (r:Nat) ∧ ShrR wr w w.heap.size n xs d k r g) (fun _ i _ => (intOf i + 1).toNat)
 case atStart => exact ⟨n,0,_,Nat.le_refl _,rfl,rfl,Uh HR0⟩
 case round =>
  clear HR0
  obtain ⟨k,r,g,hk,rfl,rfl,hR⟩:=hrel
  rcases k with _ | k
  ·have t1:¬ (0:Int) ≤ ((0:Nat):Int) - 1:=by omega
   have hv:=hR.val
   simp only [Nat.zero_add,Nat.sub_zero] at hv
   rw [valF_ge xs n (by rw [Uh HL]; exact Nat.le_refl _)] at hv
   obtain ⟨e1,e2⟩:=Uh HQ _ _ hR.rlt hv
   have hrb:=hR.rlt
   have K:=wnorm_sl (some ⟨w.heap.size,0,none⟩) n n _ wr (hR.fn.sl (Nat.le_refl _) (by unfold maxLen; omega)) (by intro e; cases e) (lst_ok hR.ok)
   rw [lst_val,e1] at K
   have HK:=Hd K
   have HB:=Hd hR.bel
   have E2:=Hd e2
   clear K hR hv e1 e2
   go_wp2_with fail
   refine (Uh HK).mono ?_
   rintro e w' ⟨m,rfl,hm,hO,hw⟩
   obtain rfl:=hw.symm
   have HO:=Hd hO
   clear hO hw HK
   go_wp2_with fail
   go_ret2
   rw [← Uh E2]
   exact ⟨_,_,_,rfl,Uh HO,fun x hx => by cases hx; exact Nat.le_refl _,(by intro e; cases e),Uh HB⟩
  ·have t0:((k + 1:Nat):Int) - 1 = (k:Int):=by omega
   rw [t0]
   have t1:(k:Int) < (n:Int):=by omega
   have hne:xs ≠ []:=by intro e; have:=Uh HL; rw [e] at this; simp at this; omega
   obtain ⟨b,off,e0,hc⟩:=((Uh HS).below hR.bel).cells.resolve_left hne
   subst e0
   have g0:=hc k (by rw [Uh HL]; omega)
   have g1:=(hR.fn k (by omega)).1
   have g2:=(hR.fn k (by omega)).2
   rw [Nat.zero_add] at g1 g2
   have HN:=Hd (hR.step ox (by omega) (Nat.le_refl _))
   have bx:=ox.getD k
   have br:=hR.rlt
   have e0:=or_halves r (xs.getD k 0) (by omega) bx
   have hq:=dv_div_lt bx br
   have hrl:dv (xs.getD k 0) r % d < d:=Nat.mod_lt _ hd0
   have hdv:(xs.getD k 0) + 4294967296 * r = dv (xs.getD k 0) r:=rfl
   rw [hdv] at e0
   have hz:=dv_lt bx (show r < 4294967296 by omega)
   generalize dv (xs.getD k 0) r = z at *
   have e1:((z:Nat):Int).tdiv (d:Int) = ((z / d:Nat):Int):=by rw [Int.tdiv_eq_ediv_of_nonneg (by omega)]; exact (Int.natCast_ediv _ _).symm
   have e2:((z:Nat):Int).tmod (d:Int) = ((z % d:Nat):Int):=by rw [Int.tmod_eq_emod_of_nonneg (by omega)]; exact (Int.natCast_emod _ _).symm
   have e3:((z:Nat):Int) / (d:Int) = ((z / d:Nat):Int):=(Int.natCast_ediv _ _).symm
   have e4:((z:Nat):Int) % (d:Int) = ((z % d:Nat):Int):=(Int.natCast_emod _ _).symm
   generalize z / d = q at *
   generalize z % d = r' at *
   generalize xs.getD k 0 = x at *
   clear hR hc hne hdv
   go_wp2
   exact ⟨⟨k,_,_,by omega,by go_num,rfl,Uh HN⟩,by simp [intOf]⟩

theorem wor_low {c y s:Nat} (hs:s < 32) (hc:c < 2 ^ s) (hy:y < 4294967296):bits .or .u64 (c:Int) ((y * 2 ^ s:Nat):Int) = ((y * 2 ^ s + c:Nat):Int) ∧ y * 2 ^ s + c < 18446744073709551616:=by
 have hp:=(pow_s hs)
 have hb:y * 2 ^ s ≤ 4294967295 * 2147483648:=Nat.mul_le_mul (by omega) hp.2
 refine ⟨?_,by omega⟩
 rw [u64_or_nat _ _ (by omega) (by omega)]
 congr 1
 have h:=Nat.shiftLeft_add_eq_or_of_lt (i:=s) (b:=c) hc y
 rw [Nat.shiftLeft_eq] at h
 rw [Nat.or_comm,← h]

structure RaR (wr w:World) (L s t:Nat) (v:Value) (k c:Nat) (zs:List Nat):Prop where
 len:zs.length = L + k
 ok:Ok zs
 clt:c < 2 ^ s
 own:wr.ownsRow w.heap.size 64 1 v (L + k) (vals zs)
 val:val zs + 4294967296 ^ (L + k) * c = 4294967296 ^ L * (t * 2 ^ s)
 bel:Below w.heap.size w wr

theorem RaR.step {wr w w1:World} {L s t:Nat} {v v':Value} {k c:Nat} {zs:List Nat} {o:Obj} (h:RaR wr w L s t v k c zs) (y:Nat) (hy:y < 4294967296) (hs:s < 32)
  (hown:w1.ownsRow w.heap.size 64 1 v' (L + k + 1) (vals zs ++ [.int .u32 ((y * 2 ^ s + c) % 4294967296:Nat)])) (hg:(wr.alloc o).grownBy w1 v.ownBlock) :
  RaR w1 w L s (t + 4294967296 ^ k * y) v' (k + 1) ((y * 2 ^ s + c) / 4294967296) (zs ++ [(y * 2 ^ s + c) % 4294967296]):=by
 have hz:=h.bel.size
 have hp:=pow_s hs
 refine ⟨by simp [h.len]; omega,?_,?_,by simpa [vals,Nat.add_assoc] using hown,?_,Below.grown (h.bel.alloc (by omega) o) hg (by simp; omega) (fun k hk => (own_ge h.own k hk).1)⟩
 ·intro z hz
  rcases List.mem_append.1 hz with hz | hz
  ·exact h.ok z hz
  ·simp at hz; subst hz; omega
 ·have hc:=h.clt
  rw [Nat.div_lt_iff_lt_mul (by decide)]
  have:(y + 1) * 2 ^ s ≤ 4294967296 * 2 ^ s:=Nat.mul_le_mul_right _ hy
  rw [Nat.add_mul,Nat.one_mul] at this
  rw [Nat.mul_comm (2 ^ s)]
  omega
 ·rw [val_append,h.len]
  simp only [Go.Proofs.YtncolonhdjkglaaGreatDoor.val,Nat.mul_zero,Nat.add_zero]
  have e:=Nat.div_add_mod (y * 2 ^ s + c) 4294967296
  rw [show L + (k + 1) = L + k + 1 from rfl,Nat.pow_succ]
  have h1:4294967296 ^ (L + k) * ((y * 2 ^ s + c) % 4294967296) + 4294967296 ^ (L + k) * 4294967296 * ((y * 2 ^ s + c) / 4294967296) = 4294967296 ^ (L + k) * (y * 2 ^ s) + 4294967296 ^ (L + k) * c:=by
   rw [Nat.mul_assoc,← Nat.mul_add,Nat.add_comm ((y * 2 ^ s + c) % 4294967296),e,Nat.mul_add]
  have h2:4294967296 ^ L * ((t + 4294967296 ^ k * y) * 2 ^ s) = 4294967296 ^ L * (t * 2 ^ s) + 4294967296 ^ (L + k) * (y * 2 ^ s):=by
   rw [Nat.add_mul,Nat.mul_add,Nat.pow_add,Nat.mul_assoc,Nat.mul_assoc]
  have:=h.val
  omega

set_option maxRecDepth 100000 in
set_option maxHeartbeats 4000000 in
theorem wraise_core (a:Option Addr) (n c:Nat) (xs:List Nat) (w:World) (k l s:Nat) (hsl:Sl w a n c xs) (ox:Ok xs) (hx:xs ≠ []) (hkl:(k:Int) / 32 = (l:Int)) (hks:(k:Int) % 32 = (s:Int)) (hs32:s < 32) (hk0:k ≤ 10000000000) (hn2:n ≤ 1000000000) :
  Calls Tryz.prog 94 #[.slice a n c,.int .i64 (k:Nat)] w fun e w' => NewL w w' (val xs * 2 ^ k) e:=by
 have hl2:(k:Int).tdiv 32 = (l:Int):=by rw [Int.tdiv_eq_ediv_of_nonneg (by omega)]; exact hkl
 have hs2:(k:Int).tmod 32 = (s:Int):=by rw [Int.tmod_eq_emod_of_nonneg (by omega)]; exact hks
 have hl0:l ≤ 1000000000:=by omega
 have hn0:0 < n:=by rw [← hsl.len]; exact List.length_pos_iff.2 hx
 have t0:((n:Int) == 0) = false:=by simp; omega
 have hmk:=make_len l (by omega)
 have hp:=pow_s hs32
 have bel0:=(Below.refl w.heap.size w).alloc (Nat.le_refl _) (.cells (madeCells #[.int .u32 0] l) 64)
 have hv0:∀ j,val (List.replicate j 0) = 0:=fun j => val_zero _ (fun i => by simp [List.getD,List.getElem?_replicate]; split <;> rfl)
 have HR0:=Hd (show RaR (w.alloc (.cells (madeCells #[.int .u32 0] l) 64)) w l s (valF (fun i => xs.getD i 0) 0) (.slice (some ⟨w.heap.size,0,none⟩) l l) 0 0 (List.replicate l 0) from ⟨by simp,fun z hz => by rw [(List.mem_replicate.1 hz).2]; decide,by omega,Ow.made w l (by omega),by simp [valF,hv0],bel0⟩)
 have HT:=Hd (sh_total (v:=val xs) (show k / 32 = l by omega) (show k % 32 = s by omega))
 have HL:=Hd hsl.len
 have HS0:=Hd hsl
 obtain ⟨V,hV⟩:∃ V,val xs * 2 ^ k = V:=⟨_,rfl⟩
 rw [hV] at HT ⊢
 obtain ⟨i80,hi80,hz80,hs80,hb80⟩:=info_parts Tryz.info_u32
 have I80:=Hd (And.intro hi80 (And.intro hz80 (And.intro hs80 hb80)))
 clear hi80 hz80 hs80 hb80 hsl bel0 hv0 hV
 go_enter Tryz.func94,Tryz.ntmps94
 go_wp2_with fail
 go_loopw [5,7,8] (fun v cv i wr => ∃ j cc:Nat,∃ zs:List Nat,j ≤ n ∧ i = .int .i64 (j:Nat) ∧ cv = .int .u64 (cc:Nat) ∧ RaR wr w l s (valF (fun i => xs.getD i 0) j) v j cc zs) (fun _ _ i _ => n - (intOf i).toNat)
 case atStart => exact ⟨0,0,_,Nat.zero_le _,rfl,rfl,Uh HR0⟩
 case round =>
  clear HR0
  obtain ⟨j,cy,zs,hj,rfl,rfl,hR⟩:=hrel
  have hcy:=hR.clt
  by_cases hlt:j < n
  ·have hlt':(j:Int) < (n:Int):=by omega
   obtain ⟨b,off,e0,hc⟩:=((Uh HS0).below hR.bel).cells.resolve_left hx
   subst e0
   have g1:=hc j (by rw [Uh HL]; omega)
   have bx:=ox.getD j
   obtain ⟨e1,b1⟩:=wor_low hs32 hcy bx
   have HS:=Hd (fun w1 v' o hown hg => (show RaR w1 w l s (valF (fun i => xs.getD i 0) (j + 1)) v' (j + 1) _ _ from RaR.step (w1:=w1) (v':=v') (o:=o) hR (xs.getD j 0) bx hs32 hown hg))
   have HSZ:=Hd hR.bel.size
   have HR:=Hd hR
   have hb2:xs.getD j 0 * 2 ^ s ≤ 4294967295 * 2147483648:=Nat.mul_le_mul (by omega) hp.2
   have e0:((xs.getD j 0:Nat):Int) * 2 ^ s = ((xs.getD j 0 * 2 ^ s:Nat):Int):=by rw [Int.natCast_mul,Int.natCast_pow]; rfl
   have e00:((xs.getD j 0:Nat):Int) * 2 ^ s % 18446744073709551616 = ((xs.getD j 0 * 2 ^ s:Nat):Int):=by rw [e0]; omega
   have e5:IntKind.u64.wrap (((xs.getD j 0:Nat):Int) * 2 ^ s) = ((xs.getD j 0 * 2 ^ s:Nat):Int):=by rw [e0,IntKind.wrap_u64]; omega
   clear hR hc HS0
   generalize xs.getD j 0 * 2 ^ s = y at *
   generalize y + cy = z at *
   have e2:((z:Nat):Int) % 4294967296 = ((z % 4294967296:Nat):Int):=by omega
   have e3:((z:Nat):Int) / 4294967296 = ((z / 4294967296:Nat):Int):=by omega
   have b4:z % 4294967296 < 4294967296:=by omega
   have b5:z / 4294967296 < 4294967296:=by omega
   generalize z % 4294967296 = z1 at *
   generalize z / 4294967296 = z2 at *
   generalize xs.getD j 0 = x at *
   go_wp2_with (at_builtin; refine wpList_append_lies _ rfl _ _ 22 rfl w.heap.size 64 i80 (.int .u32 0) 1 4 Tryz.underlying22 (Uh I80).1 (Uh I80).2.1 (Uh I80).2.2.1 (Uh I80).2.2.2 rfl (by decide) _ (l + j) (vals zs) rfl ((Uh HR).own.alloc _) ⟨wr.heap.size,0,none⟩ 1 1 [.int .u32 (z1:Nat)] rfl rfl (World.news_of_block (alloc_block _ _)) one_int (by decide) ?c31A ?c41A ?c51A (wr.heap.size + 1) (by simp) ?_)
   case c31A => unfold maxLen; omega
   case c41A => omega
   case c51A => have:=Uh HSZ; simp; omega
   intro g1 cc w2 hown hgrow hat hlt2
   have HN:=Hd (Uh HS w2 _ _ hown hgrow)
   clear hown hgrow hat hlt2 HS HR
   go_wp2
   exact ⟨⟨j + 1,_,_,by omega,by go_num,rfl,Uh HN⟩,by simp [intOf]; omega⟩
  ·have hlt':¬ (j:Int) < (n:Int):=by omega
   have hjn:j = n:=by omega
   have hv:=hR.val
   rw [valF_ge xs j (by rw [Uh HL]; omega)] at hv
   have HV:=Hd (show val (zs ++ [cy]) = V by
    rw [val_append,hR.len]
    simp only [val,Nat.mul_zero,Nat.add_zero]
    rw [hv,← Uh HT,Nat.mul_comm])
   have HOK:=Hd (show Ok (zs ++ [cy]) from fun z hz => by
    rcases List.mem_append.1 hz with hz | hz
    ·exact hR.ok z hz
    ·simp at hz; subst hz; omega)
   have hcb:cy < 4294967296:=by omega
   have HSZ:=Hd hR.bel.size
   have HR:=Hd hR
   clear hR hv hjn
   go_wp2_with (at_builtin; refine wpList_append_lies _ rfl _ _ 22 rfl w.heap.size 64 i80 (.int .u32 0) 1 4 Tryz.underlying22 (Uh I80).1 (Uh I80).2.1 (Uh I80).2.2.1 (Uh I80).2.2.2 rfl (by decide) _ (l + j) (vals zs) rfl ((Uh HR).own.alloc _) ⟨wr.heap.size,0,none⟩ 1 1 [.int .u32 (cy:Nat)] rfl rfl (World.news_of_block (alloc_block _ _)) one_int (by decide) ?c31B ?c41B ?c51B (wr.heap.size + 1) (by simp) ?_)
   case c31B => unfold maxLen; omega
   case c41B => omega
   case c51B => have:=Uh HSZ; simp; omega
   intro g1 cc w2 hown hgrow hat hlt2
   have e9:vals zs ++ [.int .u32 (cy:Nat)] = vals (zs ++ [cy]):=by simp [vals]
   rw [e9] at hown
   have K:=wnorm_any (some ⟨g1,0,none⟩) (l + j + 1) cc w.heap.size _ w2 hown (Uh HOK)
   rw [Uh HV] at K
   have HK:=Hd K
   have HB:=Hd (Below.grown ((Uh HR).bel.alloc (Uh HSZ) _) hgrow (by have:=Uh HSZ; simp; omega) (fun k hk => (own_ge (Uh HR).own k hk).1))
   clear K hown hgrow hat hlt2 e9 HR
   go_wp2_with fail
   refine (Uh HK).mono ?_
   rintro e w' ⟨m,rfl,hm,hO,hw⟩
   obtain rfl:=hw.symm
   have HO:=Hd hO
   clear hO hw HK
   go_wp2_with fail
   go_ret
   exact ⟨_,_,_,rfl,(Uh HO).sl,(Uh HO).new,(Uh HO).nilc,Uh HB⟩

set_option maxHeartbeats 400000 in
theorem wraise_nil (a:Option Addr) (c:Nat) (k:Int) (w:World):Calls Tryz.prog 94 #[.slice a 0 c,.int .i64 k] w fun e w' => e = .returned (.slice none 0 0) ∧ w' = w:=by
 go_enter Tryz.func94,Tryz.ntmps94
 go_wp2
 go_ret
 exact ⟨rfl,rfl⟩

theorem wraise_any (a:Option Addr) (n c:Nat) (xs:List Nat) (w:World) (k:Nat) (hsl:Sl w a n c xs) (ox:Ok xs) (hk0:k ≤ 10000000000) (hn2:n ≤ 1000000000) :
  Calls Tryz.prog 94 #[.slice a n c,.int .i64 (k:Nat)] w fun e w' => NewL w w' (val xs * 2 ^ k) e:=by
 by_cases hx:xs = []
 ·have hn:n = 0:=by rw [← hsl.len,hx]; rfl
  subst hn
  refine (wraise_nil a c k w).mono ?_
  rintro e w' ⟨rfl,rfl⟩
  subst hx
  have:val [] * 2 ^ k = 0:=by simp [val]
  rw [this]
  exact ⟨none,0,0,rfl,sl_nil _,newAt_nil _,fun _ => rfl,Below.refl _ _⟩
 ·exact wraise_core a n c xs w k (k / 32) (k % 32) hsl ox hx (by omega) (by omega) (by omega) hk0 hn2
theorem dg_split {V k Q i:Nat} (hq:Q = V / 10 ^ k) (hi:i ≤ 9):V / 10 ^ (k + i) = Q / 1000000000 * 10 ^ (9 - i) + Q % 1000000000 / 10 ^ i:=by
 have e9:1000000000 = 10 ^ i * 10 ^ (9 - i):=by rw [← Nat.pow_add,show i + (9 - i) = 9 from by omega]
 have hV:V / 10 ^ (k + i) = Q / 10 ^ i:=by rw [hq,Nat.div_div_eq_div_mul,← Nat.pow_add]
 have hQ:Q = 10 ^ i * (Q / 1000000000 * 10 ^ (9 - i)) + Q % 1000000000:=by
  have h1:=Nat.div_add_mod Q 1000000000
  have h2:10 ^ i * (Q / 1000000000 * 10 ^ (9 - i)) = 1000000000 * (Q / 1000000000):=by
   rw [Nat.mul_left_comm,← e9,Nat.mul_comm]
  omega
 rw [hV]
 conv => lhs; rw [hQ]
 rw [Nat.mul_add_div (Nat.pow_pos (by decide))]
theorem dg_digit {V k Q i:Nat} (hq:Q = V / 10 ^ k) (hi:i < 9):dgt V 10 (k + i) = Q % 1000000000 / 10 ^ i % 10:=by
 unfold dgt
 rw [dg_split hq (by omega)]
 obtain ⟨t,ht⟩:∃ t,9 - i = t + 1:=⟨8 - i,by omega⟩
 rw [ht,Nat.pow_succ,← Nat.mul_assoc,Nat.mul_comm _ 10,Nat.mul_add_mod]
theorem dg_pos {V k Q i:Nat} (hq:Q = V / 10 ^ k) (hi:i < 9) (h:0 < Q / 1000000000 ∨ 0 < Q % 1000000000 / 10 ^ i):0 < V / 10 ^ (k + i):=by
 rw [dg_split hq (by omega)]
 rcases h with h | h
 ·exact Nat.add_pos_left (Nat.mul_pos h (Nat.pow_pos (by decide))) _
 ·exact Nat.add_pos_right _ h
theorem dg_next (R i:Nat):R / 10 ^ i / 10 = R / 10 ^ (i + 1):=by rw [Nat.div_div_eq_div_mul,← Nat.pow_succ]
theorem dg_lt {Q i:Nat}:Q % 1000000000 / 10 ^ i < 1000000000:=Nat.lt_of_le_of_lt (Nat.div_le_self _ _) (Nat.mod_lt _ (by decide))
theorem dg_end {V k Q i:Nat} (hq:Q = V / 10 ^ k) (hi:i ≤ 9) (h:i = 9 ∨ Q / 1000000000 = 0 ∧ Q % 1000000000 / 10 ^ i = 0):Q / 1000000000 = V / 10 ^ (k + i):=by
 rw [dg_split hq hi]
 rcases h with rfl | ⟨h1,h2⟩
 ·have:Q % 1000000000 / 10 ^ 9 = 0:=Nat.div_eq_of_lt (Nat.mod_lt _ (by decide))
  omega
 ·rw [h1,h2]; simp

structure DgO (wr w:World) (V:Nat) (v:Value) (k:Nat):Prop where
 own:wr.ownsRow w.heap.size 5 1 v k (valsB (lst (fun p => chrN (dgt V 10 p)) k))
 top:k = 0 ∨ 0 < V / 10 ^ (k - 1)
 bel:Below w.heap.size w wr
theorem DgO.below {wr w w':World} {V:Nat} {v:Value} {k:Nat} (h:DgO wr w V v k) (b:Below wr.heap.size wr w'):DgO w' w V v k :=
 ⟨ownsRow_below h.own b,h.top,h.bel.trans (b.mono h.bel.size)⟩
theorem DgO.step {wr w w1:World} {V:Nat} {v v':Value} {k:Nat} {o:Obj} (h:DgO wr w V v k) (hp:0 < V / 10 ^ k)
  (hown:w1.ownsRow w.heap.size 5 1 v' (k + 1) (valsB (lst (fun p => chrN (dgt V 10 p)) k) ++ [.int .u8 (chrN (dgt V 10 k):Nat)])) (hg:(wr.alloc o).grownBy w1 v.ownBlock):DgO w1 w V v' (k + 1):=by
 have hz:=h.bel.size
 refine ⟨?_,.inr (by simpa using hp),Below.grown (h.bel.alloc (by omega) o) hg (by simp; omega) (fun k hk => (own_ge h.own k hk).1)⟩
 have e:valsB (lst (fun p => chrN (dgt V 10 p)) k) ++ [.int .u8 (chrN (dgt V 10 k):Nat)] = valsB (lst (fun p => chrN (dgt V 10 p)) (k + 1)):=by
  unfold valsB
  simp only [lst,List.range_succ,List.map_append,List.map_cons,List.map_nil]
 rw [e] at hown
 exact hown
theorem DgO.done {wr w:World} {V:Nat} {v:Value} {k:Nat} (h:DgO wr w V v k) (hV:0 < V) (hq:V / 10 ^ k = 0):TxtOf V 10 k:=by
 have hp:0 < 10 ^ k:=Nat.pow_pos (by decide)
 have h1:V < 10 ^ k:=by
  rcases Nat.lt_or_ge V (10 ^ k) with e | e
  ·exact e
  ·have:=Nat.div_pos e hp
   omega
 rcases h.top with e | e
 ·subst e; simp at h1; omega
 ·have h2:10 ^ (k - 1) ≤ V:=by
   rcases Nat.lt_or_ge V (10 ^ (k - 1)) with g | g
   ·rw [Nat.div_eq_of_lt g] at e; omega
   ·exact g
  refine ⟨?_,h1,.inr h2⟩
  rcases Nat.eq_zero_or_pos k with g | g
  ·subst g; simp at h1; omega
  ·exact g
theorem DgO.len {wr w:World} {V:Nat} {v:Value} {k n:Nat} (h:DgO wr w V v k) (hV:V < 2 ^ (32 * n)):k ≤ 32 * n:=by
 rcases h.top with e | e
 ·omega
 ·rcases Nat.eq_zero_or_pos k with g | g
  ·omega
  have h2:10 ^ (k - 1) ≤ V:=by
   rcases Nat.lt_or_ge V (10 ^ (k - 1)) with g | g
   ·rw [Nat.div_eq_of_lt g] at e; omega
   ·exact g
  have h3:2 ^ (k - 1) ≤ 10 ^ (k - 1):=Nat.pow_le_pow_left (by decide) _
  have:=(Nat.pow_lt_pow_iff_right (by decide:1 < 2)).1 (show 2 ^ (k - 1) < 2 ^ (32 * n) by omega)
  omega
def FarB (v:Value) (a:Option Addr) (xs:List Nat):Prop:=∀ x,a = some x → xs ≠ [] → v.ownBlock ≠ some x.block
theorem FarB.step {w w1:World} {v:Value} {a:Option Addr} {m c g k2 c2:Nat} {xs:List Nat} {o:Obj} (h:FarB v a xs) (hs:Sl w a m c xs) (hg:(w.alloc o).grownBy w1 v.ownBlock) (hat:v.ownBlock = some g ∨ g = w.heap.size + 1):Sl w1 a m c xs ∧ FarB (.slice (some ⟨g,0,none⟩) k2 c2) a xs:=by
 have hs1:Sl (w.alloc o) a m c xs:=hs.below ((Below.refl _ _).alloc (Nat.le_refl _) o)
 refine ⟨hs1.chg (S:=fun k => v.ownBlock = some k) (Chg.of_grown hg (fun k hk => hk)) (fun x hx hne => h x hx hne),?_⟩
 intro x hx hne e
 simp [Value.ownBlock] at e
 rcases hat with h1 | h1
 ·exact h x hx hne (by rw [h1,e])
 ·have:=hs.block_lt hne x hx
  omega
theorem strB_data (xs:List Nat):(strB xs).data = (xs.map fun x => UInt8.ofNat x).toArray:=by
 unfold strB strOfNums
 simp [List.map_map,Function.comp_def]
theorem strB_app (xs ys:List Nat):strB (xs ++ ys) = strB xs ++ strB ys:=by
 apply ByteArray.ext
 rw [ByteArray.data_append,strB_data,strB_data,strB_data]
 simp
theorem strB_len (xs:List Nat):(strB xs).size = xs.length:=by unfold strB; rw [strOfNums_size]; simp
theorem strB_front (xs ys:List Nat) {n:Nat} (h:xs.length = n):(strB (xs ++ ys)).extract 0 n = strB xs:=by
 apply ByteArray.ext
 rw [ByteArray.data_extract,strB_data,strB_data]
 subst h
 simp
theorem strB_back (xs ys:List Nat) {n m:Nat} (h:xs.length = n) (hm:n + ys.length = m):(strB (xs ++ ys)).extract n m = strB ys:=by
 apply ByteArray.ext
 rw [ByteArray.data_extract,strB_data,strB_data]
 subst h
 subst hm
 simp
 exact List.take_of_length_le (by simp)
theorem lst_add (f:Nat → Nat) (m k:Nat):lst f (m + k) = lst f m ++ lst (fun q => f (m + q)) k:=by
 unfold lst
 rw [List.range_add,List.map_append,List.map_map]
 rfl
theorem lst_same {f g:Nat → Nat} {n:Nat} (h:∀ i,i < n → f i = g i):lst f n = lst g n:=by
 unfold lst
 exact List.map_congr_left (fun i hi => h i (List.mem_range.1 hi))
theorem txtL_len (V b n:Nat):(txtL V b n).length = n:=lst_len _ _
theorem txtL_split (V m k:Nat):txtL V 10 (m + k) = txtL (V / 10 ^ k) 10 m ++ txtL (V % 10 ^ k) 10 k:=by
 unfold txtL
 rw [lst_add]
 congr 1
 ·refine lst_same (fun p hp => ?_)
  rw [dgt_div]
  congr 2
  omega
 ·refine lst_same (fun q hq => ?_)
  rw [dgt_mod V 10 (by decide) (show k - 1 - q < k by omega)]
  congr 2
  omega
theorem txtL_one {V:Nat} (h:V < 10):txtL V 10 1 = [48 + V]:=by
 unfold txtL lst dgt
 simp
 rw [Nat.mod_eq_of_lt h,chr_up h]
theorem txtL_pad {V j:Nat} (h:V < 10 ^ j):txtL V 10 (j + 1) = 48 :: txtL V 10 j:=by
 rw [Nat.add_comm,txtL_split,Nat.div_eq_of_lt h,Nat.mod_eq_of_lt h,txtL_one (by decide)]
 rfl
theorem txtL_pads {V j:Nat} (h:V < 10 ^ j) (c:Nat):txtL V 10 (j + c) = List.replicate c 48 ++ txtL V 10 j:=by
 induction c with
 | zero => simp
 | succ c ih =>
  rw [← Nat.add_assoc,txtL_pad (Nat.lt_of_lt_of_le h (Nat.pow_le_pow_right (by decide) (by omega))),ih]
  rfl
theorem TxtOf.le_of {V L k:Nat} (h:TxtOf V 10 L) (hk:1 ≤ k) (hV:V < 10 ^ k):L ≤ k:=by
 rcases h.ge with e | e
 ·omega
 ·have:=(Nat.pow_lt_pow_iff_right (show 1 < 10 by decide)).1 (Nat.lt_of_le_of_lt e hV)
  omega
theorem TxtOf.up {N L k M:Nat} (h:TxtOf N 10 L) (hM:M = max L (k + 1)):TxtOf (N / 10 ^ k) 10 (M - k):=by
 have hp:0 < 10 ^ k:=Nat.pow_pos (by decide)
 have hlt:N < 10 ^ M:=Nat.lt_of_lt_of_le h.lt (Nat.pow_le_pow_right (by decide) (by omega))
 refine ⟨by omega,?_,?_⟩
 ·rw [Nat.div_lt_iff_lt_mul hp,← Nat.pow_add,show M - k + k = M by omega]
  exact hlt
 ·rcases h.ge with e | e
  ·left; omega
  ·by_cases hl:L ≤ k + 1
   ·left; omega
   ·right
    rw [Nat.le_div_iff_mul_le hp,← Nat.pow_add]
    have e2:M - k - 1 + k = L - 1:=by omega
    rw [e2]
    exact e
def dotB (N k:Nat):ByteArray:=if k = 0 then ⟨#[]⟩ else ⟨#[46]⟩ ++ strB (txtL (N % 10 ^ k) 10 k)
theorem dotB_zero (N:Nat) {k:Nat} (h:k = 0):dotB N k = ⟨#[]⟩:=by unfold dotB; rw [if_pos h]
theorem dotB_pos (N:Nat) {k:Nat} (h:k ≠ 0):dotB N k = ⟨#[46]⟩ ++ strB (txtL (N % 10 ^ k) 10 k):=by unfold dotB; rw [if_neg h]
theorem strB_zero:strB [48] = ⟨#[48]⟩:=rfl
theorem strB_cons (xs:List Nat):(⟨#[48]⟩:ByteArray) ++ strB xs = strB (48 :: xs):=by
 rw [← strB_zero,← strB_app]
 rfl
theorem Sl.part {w:World} {b off n c:Nat} {xs:List Nat} (h:Sl w (some ⟨b,off,none⟩) n c xs) (k p c':Nat) (hp:k + p ≤ n) (hc:p ≤ c') (hm:c' ≤ maxLen):Sl w (some ⟨b,off + k,none⟩) p c' ((xs.drop k).take p):=by
 have hl:=h.len
 refine ⟨by simp; omega,hc,hm,?_⟩
 rcases h.cells with e | ⟨b',o',e,hh⟩
 ·left; subst e; simp
 ·right
  injection e with e
  injection e with e1 e2
  subst e1 e2
  refine ⟨_,_,rfl,?_⟩
  intro i hi
  have hi':i < p:=by simp at hi; omega
  have:=hh (k + i) (by omega)
  rw [← Nat.add_assoc] at this
  rw [this]
  simp [List.getD,hi']

theorem piece_mul {N n1 n2 p k c2 b1 o1:Nat} {a2:Option Addr} {xs ys:List Nat} (IH:MI N) (hN:p + n2 ≤ N) (hb:p + n2 ≤ 70368744177000) (ox:Ok xs) (oy:Ok ys) (hp:k + p ≤ n1) (w:World) {c1:Nat} (h1:Sl w (some ⟨b1,o1,none⟩) n1 c1 xs) (h2:Sl w a2 n2 c2 ys) :
  Calls Tryz.prog 131 #[.slice (some ⟨b1,o1 + k,none⟩) p p,.slice a2 n2 c2] w fun e w' => NewRep w w' (val ((xs.drop k).take p) * val ys) e :=
 multiply_of _ a2 p p n2 c2 _ ys w (h1.part k p p hp (Nat.le_refl _) (by unfold maxLen; omega)) h2 ((ox.drop k).take p) oy hb (fun w bz oz nz cz h => IH w bz oz nz cz _ p p _ a2 n2 c2 ys hN h)

theorem Sl.upd {w w':World} {b off n c bz lo hi:Nat} {xs:List Nat} (h:Sl w (some ⟨b,off,none⟩) n c xs) (u:Upd bz lo hi w w') (hd:b ≠ bz ∨ off + xs.length ≤ lo ∨ hi ≤ off):Sl w' (some ⟨b,off,none⟩) n c xs:=by
 refine ⟨h.len,h.le,h.cap,?_⟩
 rcases h.cells with e | ⟨b',o',e,hh⟩
 ·exact .inl e
 ·right
  injection e with e
  injection e with e1 e2
  subst e1 e2
  exact ⟨_,_,rfl,u.cells hh hd⟩

theorem piece_add {wr w w5:World} {bz oz nz cz n1 n2 m:Nat} {a':Option Addr} {xs ys zs:List Nat} {k p k':Nat} {f:Nat → Nat} (h:PieceR wr w bz oz nz xs ys k f) (hl1:xs.length = n1) (hl2:ys.length = n2) (hnz:n1 + n2 = nz) (hbig:nz ≤ 1000000000) (ox:Ok xs) (oy:Ok ys) (hp:k + p ≤ n1) (hn2:0 < n2)
  (hk':xs.take k' = xs.take (k + p)) (b5:Below wr.heap.size wr.drew w5) (hs:Sl w5 a' m m zs) (hr:Rep (val ((xs.drop k).take p) * val ys) zs) (ha:NewAt wr.heap.size a') :
  Calls Tryz.prog 159 #[.slice (some ⟨bz,oz + k,none⟩) (nz - k) (cz - k),.slice a' m m] w5 fun e w6 => ∃ c:Nat,e = .returned (.int .u32 (c:Nat)) ∧ ∃ g,PieceR w6 w bz oz nz xs ys k' g:=by
 have b5':Below wr.heap.size wr w5:=(Below.drew (Below.refl _ _)).trans b5
 have hbz:bz < wr.heap.size:=World.block_lt_of_cell? _ _ (h.fn 0 (by omega)).1
 have hlen:m ≤ nz - k:=by
  rw [← hs.len]
  refine Nat.le_trans (rep_len_le (j:=p + n2) hr ?_) (by omega)
  have a1:=take_lt (ox.drop k) p (by simp; omega)
  have a2:=val_lt oy
  rw [Nat.pow_add,← hl2]
  exact Nat.mul_lt_mul_of_lt_of_le a1 (by omega) (pow_pos _)
 refine (addTo_any bz (oz + k) (nz - k) (cz - k) m m a' (fun i => f (k + i)) zs w5 hs (fun x hx _ => by have:=ha x hx; omega) hlen (by unfold maxLen; omega) hr.ok (fun i hi => h.ok _ (by omega)) ((h.fn.below b5').part k (nz - k) (by omega))).mono ?_
 rintro e w6 ⟨f',c,rfl,hc,hF,hok,hval,hupd⟩
 rw [hr.val] at hval
 exact ⟨c,rfl,h.step hl1 hl2 hnz ox oy hp hk' hbz b5' hF hok hval hupd⟩

set_option maxHeartbeats 4000000 in
theorem pieces_some (bz oz nz cz b1 o1 n1 c1 b2 o2 n2 c2:Nat) (xs ys:List Nat) (w:World) (h:MulPre w bz oz nz cz (some ⟨b1,o1,none⟩) n1 c1 xs (some ⟨b2,o2,none⟩) n2 c2 ys) (h48:48 ≤ n2) (hhalf:2 * n2 ≤ n1 + 1) (hbig:nz ≤ 1000000000) (N:Nat) (hN:n1 + n2 ≤ N + 1) (IH:MI N) :
  Calls Tryz.prog 166 #[.slice (some ⟨bz,oz,none⟩) nz cz,.slice (some ⟨b1,o1,none⟩) n1 c1,.slice (some ⟨b2,o2,none⟩) n2 c2] w fun e w' => MulPost w bz oz nz (val xs * val ys) e w':=by
 have HP:=Hd h
 have HI:=Hd IH
 have HX:=Hd (show xs ≠ [] from by intro e; have:=h.h1.len; rw [e] at this; simp at this; omega)
 have HY:=Hd (show ys ≠ [] from by intro e; have:=h.h2.len; rw [e] at this; simp at this; omega)
 have hcz:=h.hcz
 have hc1:=h.h1.le
 have hnz1:n1 + n2 ≤ nz:=by have:=h.hnz; omega
 have hnz2:nz ≤ n1 + n2:=by have:=h.hnz; omega
 have hR0:PieceR w w bz oz nz xs ys 0 (fun _ => 0):=⟨h.hz,fun _ _ => by decide,by simp [val,valF_zero],Upd.refl _ _ _ _⟩
 clear h IH
 go_enter Tryz.func166,Tryz.ntmps166
 go_wp2
 go_loopw [6] (fun i wr => ∃ k:Nat,∃ f:Nat → Nat,k ≤ n1 + n2 ∧ i = .int .i64 k ∧ PieceR wr w bz oz nz xs ys k f) (fun i _ => n1 + n2 - (intOf i).toNat)
 case atStart => exact ⟨0,_,Nat.zero_le _,rfl,hR0⟩
 case round =>
  clear hR0
  obtain ⟨k,f,hk,rfl,hR⟩:=hrel
  by_cases hlt:k < n1
  ·have hlt':(k:Int) < (n1:Int):=by omega
   have hz1:(k:Int) ≤ (nz:Int):=by omega
   by_cases hto:k + n2 ≤ n1
   ·have hto':(k:Int) + (n2:Int) ≤ (n1:Int):=by omega
    have hto2:(k:Int) + (n2:Int) ≤ (c1:Int):=by omega
    have hpl:k + n2 - k = n2:=by omega
    have KM:=Hd (fun (w':World) (hb:Below wr.heap.size wr w') => piece_mul (p:=n2) (k:=k) (Uh HI) (by omega) (by omega) (Uh HP).ox (Uh HP).oy (show k + (n2) ≤ n1 by omega) w' (((Uh HP).h1.upd hR.upd ((Uh HP).s1 _ rfl (Uh HX))).below hb) (((Uh HP).h2.upd hR.upd ((Uh HP).s2 _ rfl (Uh HY))).below hb))
    have KA:=Hd (fun w5 a' m zs => piece_add (cz:=cz) (w5:=w5) (a':=a') (m:=m) (zs:=zs) (p:=n2) (k':=k + n2) hR (Uh HP).h1.len (Uh HP).h2.len (Uh HP).hnz hbig (Uh HP).ox (Uh HP).oy (show k + (n2) ≤ n1 by omega) (by omega) rfl)
    clear hR
    go_wp2_with fail
    go_region_with (first | (go_at_call 131; refine (Uh KM _ ?_).mono ?_; exact (Below.refl _ _).drew; rintro e w5 ⟨a',m,zs,rfl,hs,hr,ha,hb5⟩; have KB:=Hd (Uh KA w5 a' m zs hb5 hs hr ha); clear hs hr ha hb5) | (go_at_call 159; refine (Uh KB).mono ?_; rintro e w6 ⟨cc,rfl,g,hR2⟩; have HR2:=Hd hR2; clear hR2))
    all_goals
     go_wp2
     exact ⟨⟨k + n2,_,by omega,by go_num,Uh HR2⟩,by simp [intOf]; omega⟩
   ·have hto':¬ (k:Int) + (n2:Int) ≤ (n1:Int):=by omega
    have hto2:(n1:Int) ≤ (c1:Int):=by omega
    have hto3:(n1:Int) ≤ (k:Int) + (n2:Int):=by omega
    have KM:=Hd (fun (w':World) (hb:Below wr.heap.size wr w') => piece_mul (p:=n1 - k) (k:=k) (Uh HI) (by omega) (by omega) (Uh HP).ox (Uh HP).oy (show k + (n1 - k) ≤ n1 by omega) w' (((Uh HP).h1.upd hR.upd ((Uh HP).s1 _ rfl (Uh HX))).below hb) (((Uh HP).h2.upd hR.upd ((Uh HP).s2 _ rfl (Uh HY))).below hb))
    have KA:=Hd (fun w5 a' m zs => piece_add (cz:=cz) (w5:=w5) (a':=a') (m:=m) (zs:=zs) (p:=n1 - k) (k':=k + n2) hR (Uh HP).h1.len (Uh HP).h2.len (Uh HP).hnz hbig (Uh HP).ox (Uh HP).oy (show k + (n1 - k) ≤ n1 by omega) (by omega) (by rw [List.take_of_length_le (by rw [(Uh HP).h1.len]; omega),List.take_of_length_le (by rw [(Uh HP).h1.len]; omega)]))
    clear hR
    go_wp2_with fail
    go_region_with (first | (go_at_call 131; refine (Uh KM _ ?_).mono ?_; exact (Below.refl _ _).drew; rintro e w5 ⟨a',m,zs,rfl,hs,hr,ha,hb5⟩; have KB:=Hd (Uh KA w5 a' m zs hb5 hs hr ha); clear hs hr ha hb5) | (go_at_call 159; refine (Uh KB).mono ?_; rintro e w6 ⟨cc,rfl,g,hR2⟩; have HR2:=Hd hR2; clear hR2))
    all_goals
     go_wp2
     exact ⟨⟨k + n2,_,by omega,by go_num,Uh HR2⟩,by simp [intOf]; omega⟩
  ·have hlt':¬ (k:Int) < (n1:Int):=by omega
   have hv:valF f nz = val xs * val ys:=by
    have:=hR.vl
    rw [List.take_of_length_le (by rw [(Uh HP).h1.len]; omega)] at this
    exact this
   have HR:=Hd (And.intro hR hv)
   clear hR hv
   go_wp2
   go_end0
   exact ⟨rfl,f,(Uh HR).1.fn,(Uh HR).1.ok,(Uh HR).2,(Uh HR).1.upd⟩
end Go.Proofs.YtncolonhdjkglaaGreatDoor
