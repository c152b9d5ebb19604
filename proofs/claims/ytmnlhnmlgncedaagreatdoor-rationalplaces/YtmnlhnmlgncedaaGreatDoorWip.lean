/- Wip -/
import Derived.Test.YtmnlhnmlgncedaaGreatDoorRa8
import Derived.Test.YtmnlhnmlgncedaaGreatDoorWil
import Derived.Test.YtmnlhnmlgncedaaGreatDoorDv2
import Derived.Test.YtmnlhnmlgncedaaGreatDoorShl
import Derived.Test.YtmnlhnmlgncedaaGreatDoorGc
namespace Go.Proofs.YtmnlhnmlgncedaaGreatDoor
open Go.RowKit Go.Deep
set_option linter.unusedVariables false
theorem by_step {x T d:Nat} (hd:0 < d):(x + wD * T) / d = (x + wD * (T % d)) / d + wD * (T / d) ∧ (x + wD * T) % d = (x + wD * (T % d)) % d:=by
 have e:x + wD * T = x + wD * (T % d) + d * (wD * (T / d)):=by
  have h:=Nat.div_add_mod T d
  have h2:wD * T = wD * (d * (T / d)) + wD * (T % d):=by rw [← Nat.mul_add,h]
  rw [h2,← Nat.mul_assoc,Nat.mul_comm wD d,Nat.mul_assoc]
  omega
 rw [e]
 exact ⟨by rw [Nat.add_mul_div_left _ _ hd],by rw [Nat.add_mul_mod_self_left]⟩
theorem wv_drop {ps:List Pc} {k:Nat} {p:Pc} (h:ps[k]? = some p):wv (ps.drop k) = val p.xs + wD * wv (ps.drop (k + 1)):=by
 obtain ⟨hk,e⟩:=List.getElem?_eq_some_iff.1 h
 rw [List.drop_eq_getElem_cons hk,e]
 rfl
theorem wv_drop_set {acc:List Pc} {k:Nat} {p:Pc} (h:k < acc.length):wv ((acc.set k p).drop k) = val p.xs + wD * wv (acc.drop (k + 1)):=by
 rw [wv_drop (k:=k) (p:=p) (by simp [h]),List.drop_set_of_lt (by omega)]
structure ByI (w wr:World) (g n d k:Nat) (ps:List Pc) (rv:Value):Prop where
 row:∃ acc,RowD w wr g n acc ∧ acc.length = n ∧ wv (acc.drop k) = wv (ps.drop k) / d
 r:∃ a m c,rv = .slice a m c ∧ Sl wr a m c (limbs (wv (ps.drop k) % d))

set_option maxHeartbeats 8000000 in
set_option maxRecDepth 100000 in
theorem by_narrow (a1 a2:Option Addr) (n1 c1 n2 c2 v:Nat) (ps:List Pc) (ys:List Nat) (w:World) (h1:Wide w a1 n1 c1 v ps) (h2:Sl w a2 n2 c2 ys) (oy:Ok ys) (m2:MayL ys = true) (hy:ys ≠ []) (hf:¬ 2048 < (limbs v).length) :
  Calls Tryz.prog 95 #[.slice a1 n1 c1,.slice a2 n2 c2] w fun e w' => ByPost 10 w w' (v / val ys) (v % val ys) e:=by
 have KN:=narrow_any a1 n1 c1 v ps w h1
 rw [fitL_ok hf] at KN
 have mV:MayL (limbs v) = true:=MayL.mk (limbs_rep v).norm (by omega)
 have mQ:MayL (limbs (v / val ys)) = true:=by have:=may_div mV (limbs_rep v).ok (val ys); rwa [(limbs_rep v).val] at this
 have hdv:divL (limbs v) ys = (limbs (v / val ys),limbs (v % val ys),0):=by
  unfold divL
  rw [mV,m2,(limbs_rep v).val]
  simp [hy]
 have HKN:=Hj KN
 have H:=Hj (And.intro h2 (And.intro mQ hdv))
 clear KN h1 h2 mV mQ hdv m2 hy hf
 go_enter Tryz.func95,Tryz.ntmps95
 go_wp2_with fail
 refine (Uh HKN).mono ?_
 rintro _ w3 ⟨a3,m3,c3,rfl,s3,n3,b3⟩
 have KD:=ndivmod_any a3 a2 m3 c3 n2 c2 (limbs v) ys w3 s3 ((Uh H).1.below b3) (limbs_rep v).ok oy
 rw [(Uh H).2.2] at KD
 have HKD:=Hj KD
 have HB3:=Hj b3
 clear s3 n3 b3 KD HKN
 go_wp2_with fail
 refine (Uh HKD).mono ?_
 rintro _ w4 ⟨aq,mq,cq,ar4,mr4,cr4,rfl,sq,nq,sr4,nr4,_,b4⟩
 have KS:=spread_any aq mq cq (limbs (v / val ys)) w4 sq (limbs_rep _).ok (Uh H).2.1
 rw [(limbs_rep (v / val ys)).val] at KS
 have HKS:=Hj KS
 have H4:=Hj (And.intro sr4 ((Uh HB3).trans (b4.mono (Uh HB3).size)))
 clear sq nq sr4 nr4 b4 KS HKD
 go_wp2_with fail
 refine (Uh HKS).mono ?_
 rintro _ w5 ⟨a5,n5,c5,zs,rfl,hW5,hn5,b5,_,_,_⟩
 have HFin:=Hj (show ByPost 10 w w5 (v / val ys) (v % val ys) (.returned (.tuple #[.slice a5 n5 c5,.slice ar4 mr4 cr4])) from ⟨a5,n5,c5,zs,ar4,mr4,cr4,rfl,hW5,by omega,(Uh H4).1.below b5,(Uh H4).2.trans (b5.mono (Uh H4).2.size)⟩)
 clear hW5 hn5 b5 HKS H4
 go_wp2_with fail
 go_ret2
 exact Uh HFin

set_option maxHeartbeats 8000000 in
set_option maxRecDepth 100000 in
theorem by_short (a1 a2:Option Addr) (n1 c1 n2 c2 v:Nat) (ps:List Pc) (ys:List Nat) (w:World) (h1:Wide w a1 n1 c1 v ps) (hn1:n1 ≤ 10) (h2:Sl w a2 n2 c2 ys) (oy:Ok ys) (m2:MayL ys = true) (hy:ys ≠ []) (hf:2048 < (limbs v).length) (hl:n2 ≤ 1024) :
  Calls Tryz.prog 95 #[.slice a1 n1 c1,.slice a2 n2 c2] w fun e w' => ByPost 10 w w' (v / val ys) (v % val ys) e:=by
 have KN:=narrow_any a1 n1 c1 v ps w h1
 rw [fitL_big hf] at KN
 have vyp:=val_pos_of_may m2 hy
 have HKN:=Hj KN
 have H:=Hj (And.intro h1 (And.intro h2 (And.intro m2 (And.intro hy vyp))))
 have hl':(n2:Int) ≤ 1024:=by omega
 have hl2:¬ (1024:Int) < (n2:Int):=by omega
 have hmk:=make_wide3 n1 (by omega)
 clear KN h1 h2 m2 hy hf vyp
 go_enter Tryz.func95,Tryz.ntmps95
 go_wp2_with fail
 refine (Uh HKN).mono ?_
 rintro _ w3 ⟨a3,m3,c3,rfl,s3,n3,b3⟩
 obtain ⟨wa,hwa⟩:∃ x,w3.alloc (.cells (madeCells #[.slice none 0 0] n1) 23) = x:=⟨_,rfl⟩
 have hR0:=row_nils (w:=w3) (wa:=wa) (n:=n1) (m:=0) (by rw [Nat.add_zero]; exact hwa) (by omega)
 rw [Nat.add_zero] at hR0
 have hW3:=(Uh H).1.below b3
 have hD3:=(Uh H).2.1.below b3
 have HI:=Hj (show ByI w3 wa w3.heap.size n1 (val ys) n1 ps (.slice none 0 0) from ⟨⟨_,hR0,by simp,by rw [List.drop_eq_nil_of_le (by simp),List.drop_eq_nil_of_le (by rw [hW3.sl.len]; exact Nat.le_refl _)]; exact (Nat.zero_div _).symm⟩,⟨none,0,0,rfl,by rw [List.drop_eq_nil_of_le (by rw [hW3.sl.len]; exact Nat.le_refl _),show wv [] % val ys = 0 from Nat.zero_mod _]; rw [show limbs 0 = [] by have:=limbs_val (xs:=[]) (by intro x hx; cases hx) (by simp [Norm]); simpa [val] using this]; exact sl_nil _⟩⟩)
 have H3:=Hj (And.intro hW3 (And.intro hD3 b3))
 clear hR0 hW3 hD3 s3 n3 b3 HKN
 have HM:=Hj (And.intro (Uh H).2.2.1 (And.intro (Uh H).2.2.2.1 (Uh H).2.2.2.2))
 have HEnd:=Hj (show (v % val ys) / 2 ^ (0:Int).toNat = v % val ys by simp)
 go_wp2_with fail
 go_loopw [14,13] (fun iv rv wr => ∃ k:Nat,k ≤ n1 ∧ iv = .int .i64 ((k:Int) - 1) ∧ Hid (ByI w3 wr w3.heap.size n1 (val ys) k ps rv)) (fun iv _ _ => (intOf iv + 1).toNat)
 case atStart => exact ⟨n1,Nat.le_refl _,rfl,HI⟩
 case round =>
  obtain ⟨k,hk,rfl,HJ⟩:=hrel
  obtain ⟨⟨acc,hRow,hlen,hq⟩,⟨ar,mr,cr,rfl,sr⟩⟩:=Uh HJ
  rcases Nat.eq_zero_or_pos k with hk0 | hk0
  ·subst hk0
   have t1:¬ (0:Int) ≤ ((0:Nat):Int) - 1:=by omega
   have hsl:=hRow.sl
   rw [hlen] at hsl
   have KT:=wtrim_any (some ⟨w3.heap.size,0,none⟩) n1 n1 acc wr hsl (by omega)
   have HKT:=Hj KT
   rw [List.drop_zero,List.drop_zero,(Uh H3).1.val] at hq
   rw [List.drop_zero,(Uh H3).1.val] at sr
   have KH:=nshr_any ar mr cr (limbs (v % val ys)) wr (0) sr (limbs_rep _).ok
   rw [show shrL (limbs (v % val ys)) 0 = (limbs (v % val ys),0) from by unfold shrL; rw [if_pos (may_small (Uh HM).1 oy (Nat.le_of_lt (Nat.mod_lt _ (Uh HM).2.2))),if_pos (by decide),(limbs_rep _).val,Uh HEnd]] at KH
   have HKH:=Hj KH
   have HR:=Hj (And.intro hRow hq)
   clear KT KH hsl hRow hq sr hlen HJ HI
   go_wp2_with fail
   refine (Uh HKT).mono ?_
   rintro _ _ ⟨m,qz,rfl,sz,tz,hw⟩
   obtain rfl:=hw.symm
   have hWd:=pl_end (N:=0) (Uh HR).1 tz sz
   rw [(Uh HR).2] at hWd
   have hbr:=(Uh HR).1.bel
   have hbw:=(Uh H3).2.2.trans (hbr.mono (Uh H3).2.2.size)
   have HX:=Hj (And.intro hWd (And.intro (show m ≤ 10 from Nat.le_trans (wide_len_le ((Uh H).1.below hbw) hWd (Nat.div_le_self _ _)) hn1) hbw))
   clear hw sz tz hWd hbr hbw HKT HR
   go_wp2_with fail
   refine (Uh HKH).mono ?_
   rintro _ w7 ⟨a7,m7,c7,rfl,s7,n7,b7⟩
   have HFin:=Hj (show ByPost 10 w w7 (v / val ys) (v % val ys) (.returned (.tuple #[.slice (some ⟨w3.heap.size,0,none⟩) m n1,.slice a7 m7 c7])) from ⟨_,m,n1,qz,a7,m7,c7,rfl,(Uh HX).1.below b7,(Uh HX).2.1,s7,(Uh HX).2.2.trans (b7.mono (Uh HX).2.2.size)⟩)
   clear s7 n7 b7 HKH HX
   go_wp2_with fail
   refine (sure_any _ _ _).mono ?_
   rintro _ _ ⟨rfl,hw⟩
   obtain rfl:=hw.symm
   clear hw
   go_wp2_with fail
   go_ret2
   exact Uh HFin
  ·obtain ⟨j,rfl⟩:∃ j,k = j + 1:=⟨k - 1,by omega⟩
   have t1:(0:Int) ≤ (j:Int):=by omega
   have t2:((j + 1:Nat):Int) - 1 = (j:Int):=by omega
   have t3:(j:Int) < (n1:Int):=by omega
   rw [t2]
   have hWr:=(Uh H3).1.below hRow.bel
   obtain ⟨b1,f1,P,rfl,hp,hc1,hsP,okP⟩:=hWr.sl.at' (show j < n1 by omega)
   have hmem:=List.mem_of_getElem? hp
   have hmod:=Nat.mod_lt (wv (ps.drop (j + 1))) (Uh HM).2.2
   have KD:=nextDigit_any ar P.a a2 mr cr P.n P.c n2 c2 (limbs (wv (ps.drop (j + 1)) % val ys)) P.xs ys wr sr hsP ((Uh H3).2.1.below hRow.bel) (limbs_rep _).ok okP oy (may_small (Uh HM).1 oy (Nat.le_of_lt hmod)) (hWr.norm P hmem) (hWr.len P hmem) (Uh HM).1 (Uh HM).2.1 (by rw [(limbs_rep _).val]; exact hmod)
   rw [(limbs_rep (wv (ps.drop (j + 1)) % val ys)).val] at KD
   obtain ⟨st1,st2⟩:=by_step (x:=val P.xs) (T:=wv (ps.drop (j + 1))) (Uh HM).2.2
   have hdr:=wv_drop hp
   rw [← st2,← hdr] at KD
   obtain ⟨QQ,hQQ⟩:∃ QQ,(val P.xs + wD * (wv (ps.drop (j + 1)) % val ys)) / val ys = QQ:=⟨_,rfl⟩
   have hQlt:QQ < wD:=by
    rw [← hQQ,Nat.add_comm,Nat.mul_comm]
    exact digit_lt hmod (by
     have h1:=val_lt okP
     have h2:=hsP.len
     have h4:=hWr.len P hmem
     have h3:4294967296 ^ P.xs.length ≤ 4294967296 ^ dLimbs:=pow_mono (by omega)
     rw [← wD_def] at h3
     omega)
   rw [hQQ] at KD st1
   have HKD:=Hj KD
   have HR:=Hj (And.intro hRow (And.intro hlen (show wv (ps.drop j) / val ys = QQ + wD * wv (acc.drop (j + 1)) by rw [hdr,st1,hq])))
   have HQ:=Hj hQlt
   obtain ⟨R2,hR2⟩:∃ R2,wv (ps.drop j) % val ys = R2:=⟨_,rfl⟩
   rw [hR2] at HKD
   have HR2:=Hj hR2
   clear KD hRow hq hlen sr HJ HI hWr hp hmem hsP okP hmod st1 st2 hdr hQQ hQlt hR2
   go_wp2_with fail
   refine (Uh HKD).mono ?_
   rintro _ w5 ⟨a5,m5,c5,a6,m6,c6,rfl,s5,n5,s6,n6,b5⟩
   have hR5:=(Uh HR).1.below b5
   obtain ⟨⟨vv,hcell⟩,hfz⟩:=hR5.at (i:=j) (by rw [(Uh HR).2.1]; omega)
   have hdg:=dig_new s5 (Uh HQ) n5 (Uh HR).1.lt
   have hput:=hR5.put (i:=j) (by rw [(Uh HR).2.1]; omega) hdg
   have c0:Chg (fun k => k = w3.heap.size) w5 (w5.setCell ⟨w3.heap.size,j,none⟩ (slV ⟨a5,m5,c5,limbs QQ⟩)):=Chg.of_set (S:=fun k => k = w3.heap.size) _ _ _ _ rfl
   have HFin:=Hj (show ByI w3 (w5.setCell ⟨w3.heap.size,j,none⟩ (slV ⟨a5,m5,c5,limbs QQ⟩)) w3.heap.size n1 (val ys) j ps (.slice a6 m6 c6) from by
    have hr:=Uh HR
    refine ⟨⟨_,hput,by rw [List.length_set]; exact hr.2.1,?_⟩,⟨a6,m6,c6,rfl,?_⟩⟩
    ·rw [wv_drop_set (by rw [hr.2.1]; omega),hr.2.2,(limbs_rep QQ).val]
    ·rw [Uh HR2]
     exact s6.chg c0 (fun x hx _ h => by have h1:=n6 x hx; have h2:=hr.1.lt; omega))
   unfold slV at HFin
   clear s5 n5 s6 n6 b5 hR5 hdg hput c0 HKD HR HR2
   go_wp2_with fail
   exact ⟨⟨j,by omega,by go_num,HFin⟩,by simp [intOf]⟩

theorem by_pow {b s:Nat} (h:b + s = 65536):2 ^ b * 2 ^ s = wD * wD:=by
 obtain ⟨E,hE,hw⟩:∃ E,E = 32768 ∧ 2 ^ E = wD:=⟨(32768:Int).toNat,rfl,wD_two⟩
 rw [← Nat.pow_add,← hw,← Nat.pow_add]
 exact congrArg (fun k => (2:Nat) ^ k) (by omega)
theorem shl_fit {xs:List Nat} {s:Nat} (m:MayL xs = true) (hs:s ≤ 65536) (h:val xs * 2 ^ s < wD * wD):shlL xs (s:Int) = (limbs (val xs * 2 ^ s),0):=by
 unfold shlL
 rw [if_pos m,if_pos (by omega),Int.toNat_natCast]
 exact fitL_ok (by have:=len_two h; omega)

set_option maxHeartbeats 8000000 in
set_option maxRecDepth 100000 in
theorem by_long (a1 a2:Option Addr) (n1 c1 n2 c2 v:Nat) (ps:List Pc) (ys:List Nat) (w:World) (h1:Wide w a1 n1 c1 v ps) (hn1:n1 ≤ 10) (h2:Sl w a2 n2 c2 ys) (oy:Ok ys) (m2:MayL ys = true) (hy:ys ≠ []) (hf:2048 < (limbs v).length) (hl:1024 < n2) :
  Calls Tryz.prog 95 #[.slice a1 n1 c1,.slice a2 n2 c2] w fun e w' => ByPost 10 w w' (v / val ys) (v % val ys) e:=by
 have KN:=narrow_any a1 n1 c1 v ps w h1
 rw [fitL_big hf] at KN
 have vyp:=val_pos_of_may m2 hy
 obtain ⟨bt1,bt2,_⟩:=bits_top oy (MayL.norm m2) hy rfl
 have hlen:=MayL.len m2
 have hlt:=val_lt_bits oy
 obtain ⟨B,hB⟩:∃ B,bitsN ys = B:=⟨_,rfl⟩
 rw [hB] at bt1 bt2 hlt
 obtain ⟨s,hs⟩:∃ s,65536 - B = s:=⟨_,rfl⟩
 have hBs:B + s = 65536:=by omega
 have hp:=by_pow hBs
 have h2s:0 < 2 ^ s:=Nat.pow_pos (by decide)
 have hlt2:val ys * 2 ^ s < wD * wD:=by rw [← hp]; exact Nat.mul_lt_mul_of_pos_right hlt h2s
 have v11:val [1] = 1:=by simp [val]
 have hone:val [1] * 2 ^ s < wD * wD:=Nat.lt_of_le_of_lt (Nat.mul_le_mul_right _ (by rw [v11]; exact vyp)) hlt2
 have f1:=shl_fit (xs:=[1]) (s:=s) (by decide) (by omega) hone
 have f2:=shl_fit m2 (by omega) hlt2
 rw [v11,Nat.one_mul] at f1 hone
 obtain ⟨T,hT⟩:∃ T,2 ^ s = T:=⟨_,rfl⟩
 rw [hT] at f1 f2 h2s hlt2 hone
 have mT:MayL (limbs T) = true:=may_limbs hone
 obtain ⟨zs,hzs⟩:∃ zs,limbs (val ys * T) = zs:=⟨_,rfl⟩
 have vz:val zs = val ys * T:=by rw [← hzs]; exact (limbs_rep _).val
 have oz:Ok zs:=by rw [← hzs]; exact (limbs_rep _).ok
 have mz:MayL zs = true:=by rw [← hzs]; exact may_limbs hlt2
 have vzp:0 < val zs:=by rw [vz]; exact Nat.mul_pos vyp h2s
 have nz:zs ≠ []:=fun e => by rw [e] at vzp; exact absurd vzp (by decide)
 rw [hzs] at f2
 have hEnd:v * T / val zs = v / val ys:=by rw [vz]; exact Nat.mul_div_mul_right _ _ h2s
 have hShr:shrL (limbs (v * T % val zs)) (s:Int) = (limbs (v % val ys),0):=by
  unfold shrL
  rw [if_pos (may_small mz oz (Nat.le_of_lt (Nat.mod_lt _ vzp))),if_pos (by omega),(limbs_rep _).val,Int.toNat_natCast,hT,vz,Nat.mul_mod_mul_right,Nat.mul_div_cancel _ h2s]
 have HKN:=Hj KN
 have H:=Hj (And.intro h1 (And.intro h2 (And.intro m2 (And.intro f1 (And.intro f2 (And.intro mT hB))))))
 have hl2:(1024:Int) < (n2:Int):=by omega
 have e65:(65536:Int) - (B:Int) = (s:Int):=by omega
 have HM:=Hj (And.intro mz (And.intro nz vzp))
 have HEnd:=Hj hEnd
 have HShr:=Hj hShr
 clear KN h1 h2 m2 hy hf vyp bt1 bt2 hlen hlt hB hs hBs hp h2s hlt2 hone f1 f2 v11 hT mT hzs vz mz vzp nz hEnd hShr
 go_enter Tryz.func95,Tryz.ntmps95
 go_wp2_with fail
 refine (Uh HKN).mono ?_
 rintro _ wA ⟨a3,m3,c3,rfl,s3,n3,b3⟩
 have KB:=nbits_any a2 n2 c2 ys wA ((Uh H).2.1.below b3) oy (Uh H).2.2.1
 rw [(Uh H).2.2.2.2.2.2] at KB
 have HKB:=Hj KB
 have HBA:=Hj b3
 clear KB s3 n3 b3 HKN
 go_wp2_with fail
 refine (Uh HKB).mono ?_
 rintro _ _ ⟨rfl,hw⟩
 obtain rfl:=hw.symm
 clear hw HKB
 go_wp2_with fail
 refine (ratOne_any wA).mono ?_
 rintro _ wB ⟨a4,m4,rfl,s4,_,b4⟩
 have KS:=nshl_any a4 m4 m4 [1] wB (s:Int) s4 (by intro x hx; simp at hx; subst hx; decide)
 rw [(Uh H).2.2.2.1] at KS
 have HKS:=Hj KS
 have HBB:=Hj ((Uh HBA).trans (b4.mono (Uh HBA).size))
 clear KS s4 b4
 go_wp2_with fail
 refine (Uh HKS).mono ?_
 rintro _ wC ⟨a5,m5,c5,rfl,s5,_,b5⟩
 have KP:=spread_any a5 m5 c5 (limbs T) wC s5 (limbs_rep T).ok (Uh H).2.2.2.2.2.1
 rw [(limbs_rep T).val] at KP
 have HKP:=Hj KP
 have HBC:=Hj ((Uh HBB).trans (b5.mono (Uh HBB).size))
 clear KP s5 b5 HKS
 go_wp2_with fail
 refine (sure_any _ _ _).mono ?_
 rintro _ _ ⟨rfl,hw⟩
 obtain rfl:=hw.symm
 clear hw
 go_wp2_with fail
 refine (Uh HKP).mono ?_
 rintro _ wD_ ⟨a6,n6,c6,ss,rfl,hW6,hn6,b6,_,_,_⟩
 have hBD:=(Uh HBC).trans (b6.mono (Uh HBC).size)
 have KT:=times_any a1 a6 n1 c1 n6 c6 v T ps ss wD_ ((Uh H).1.below hBD) hW6 hn1 (by omega)
 have HKT:=Hj KT
 have HBD:=Hj hBD
 clear hW6 hn6 b6 hBD KT HKP
 go_wp2_with fail
 refine (Uh HKT).mono ?_
 rintro _ wE ⟨aw,nw,cw,qs,rfl,hWw,hnw,b7⟩
 have hBE:=(Uh HBD).trans (b7.mono (Uh HBD).size)
 have KL:=nshl_any a2 n2 c2 ys wE (s:Int) ((Uh H).2.1.below hBE) oy
 rw [(Uh H).2.2.2.2.1] at KL
 have HKL:=Hj KL
 have HWw:=Hj (And.intro hWw hBE)
 clear hWw b7 hBE KL HKT HBD HBC HBB HBA
 go_wp2_with fail
 refine (Uh HKL).mono ?_
 rintro _ w3 ⟨ad,nd,cd,rfl,sd,_,b8⟩
 have hmk:=make_wide3 nw (by omega)
 obtain ⟨wa,hwa⟩:∃ x,w3.alloc (.cells (madeCells #[.slice none 0 0] nw) 23) = x:=⟨_,rfl⟩
 have hR0:=row_nils (w:=w3) (wa:=wa) (n:=nw) (m:=0) (by rw [Nat.add_zero]; exact hwa) (by omega)
 rw [Nat.add_zero] at hR0
 have hW3:=(Uh HWw).1.below b8
 have HI:=Hj (show ByI w3 wa w3.heap.size nw (val zs) nw qs (.slice none 0 0) from ⟨⟨_,hR0,by simp,by rw [List.drop_eq_nil_of_le (by simp),List.drop_eq_nil_of_le (by rw [hW3.sl.len]; exact Nat.le_refl _)]; exact (Nat.zero_div _).symm⟩,⟨none,0,0,rfl,by rw [List.drop_eq_nil_of_le (by rw [hW3.sl.len]; exact Nat.le_refl _),show wv [] % val zs = 0 from Nat.zero_mod _]; rw [show limbs 0 = [] by have:=limbs_val (xs:=[]) (by intro x hx; cases hx) (by simp [Norm]); simpa [val] using this]; exact sl_nil _⟩⟩)
 have H3:=Hj (And.intro hW3 (And.intro sd ((Uh HWw).2.trans (b8.mono (Uh HWw).2.size))))
 clear hR0 hW3 sd b8 HKL HWw
 go_wp2_with fail
 refine (sure_any _ _ _).mono ?_
 rintro _ _ ⟨rfl,hw⟩
 obtain rfl:=hw.symm
 clear hw
 go_wp2_with fail
 go_loopw [14,13] (fun iv rv wr => ∃ k:Nat,k ≤ nw ∧ iv = .int .i64 ((k:Int) - 1) ∧ Hid (ByI w3 wr w3.heap.size nw (val zs) k qs rv)) (fun iv _ _ => (intOf iv + 1).toNat)
 case atStart => exact ⟨nw,Nat.le_refl _,rfl,HI⟩
 case round =>
  obtain ⟨k,hk,rfl,HJ⟩:=hrel
  obtain ⟨⟨acc,hRow,hlen,hq⟩,⟨ar,mr,cr,rfl,sr⟩⟩:=Uh HJ
  rcases Nat.eq_zero_or_pos k with hk0 | hk0
  ·subst hk0
   have t1:¬ (0:Int) ≤ ((0:Nat):Int) - 1:=by omega
   have hsl:=hRow.sl
   rw [hlen] at hsl
   have KT:=wtrim_any (some ⟨w3.heap.size,0,none⟩) nw nw acc wr hsl (by omega)
   have HKT:=Hj KT
   rw [List.drop_zero,List.drop_zero,(Uh H3).1.val] at hq
   rw [List.drop_zero,(Uh H3).1.val] at sr
   have KH:=nshr_any ar mr cr (limbs (v * T % val zs)) wr ((s:Int)) sr (limbs_rep _).ok
   rw [Uh HShr] at KH
   have HKH:=Hj KH
   have HR:=Hj (And.intro hRow hq)
   clear KT KH hsl hRow hq sr hlen HJ HI
   go_wp2_with fail
   refine (Uh HKT).mono ?_
   rintro _ _ ⟨m,qz,rfl,sz,tz,hw⟩
   obtain rfl:=hw.symm
   have hWd:=pl_end (N:=0) (Uh HR).1 tz sz
   rw [(Uh HR).2,Uh HEnd] at hWd
   have hbr:=(Uh HR).1.bel
   have hbw:=(Uh H3).2.2.trans (hbr.mono (Uh H3).2.2.size)
   have HX:=Hj (And.intro hWd (And.intro (show m ≤ 10 from Nat.le_trans (wide_len_le ((Uh H).1.below hbw) hWd (Nat.div_le_self _ _)) hn1) hbw))
   clear hw sz tz hWd hbr hbw HKT HR
   go_wp2_with fail
   refine (Uh HKH).mono ?_
   rintro _ w7 ⟨a7,m7,c7,rfl,s7,n7,b7⟩
   have HFin:=Hj (show ByPost 10 w w7 (v / val ys) (v % val ys) (.returned (.tuple #[.slice (some ⟨w3.heap.size,0,none⟩) m nw,.slice a7 m7 c7])) from ⟨_,m,nw,qz,a7,m7,c7,rfl,(Uh HX).1.below b7,(Uh HX).2.1,s7,(Uh HX).2.2.trans (b7.mono (Uh HX).2.2.size)⟩)
   clear s7 n7 b7 HKH HX
   go_wp2_with fail
   refine (sure_any _ _ _).mono ?_
   rintro _ _ ⟨rfl,hw⟩
   obtain rfl:=hw.symm
   clear hw
   go_wp2_with fail
   go_ret2
   exact Uh HFin
  ·obtain ⟨j,rfl⟩:∃ j,k = j + 1:=⟨k - 1,by omega⟩
   have t1:(0:Int) ≤ (j:Int):=by omega
   have t2:((j + 1:Nat):Int) - 1 = (j:Int):=by omega
   have t3:(j:Int) < (nw:Int):=by omega
   rw [t2]
   have hWr:=(Uh H3).1.below hRow.bel
   obtain ⟨b1,f1,P,rfl,hp,hc1,hsP,okP⟩:=hWr.sl.at' (show j < nw by omega)
   have hmem:=List.mem_of_getElem? hp
   have hmod:=Nat.mod_lt (wv (qs.drop (j + 1))) (Uh HM).2.2
   have KD:=nextDigit_any ar P.a ad mr cr P.n P.c nd cd (limbs (wv (qs.drop (j + 1)) % val zs)) P.xs zs wr sr hsP ((Uh H3).2.1.below hRow.bel) (limbs_rep _).ok okP oz (may_small (Uh HM).1 oz (Nat.le_of_lt hmod)) (hWr.norm P hmem) (hWr.len P hmem) (Uh HM).1 (Uh HM).2.1 (by rw [(limbs_rep _).val]; exact hmod)
   rw [(limbs_rep (wv (qs.drop (j + 1)) % val zs)).val] at KD
   obtain ⟨st1,st2⟩:=by_step (x:=val P.xs) (T:=wv (qs.drop (j + 1))) (Uh HM).2.2
   have hdr:=wv_drop hp
   rw [← st2,← hdr] at KD
   obtain ⟨QQ,hQQ⟩:∃ QQ,(val P.xs + wD * (wv (qs.drop (j + 1)) % val zs)) / val zs = QQ:=⟨_,rfl⟩
   have hQlt:QQ < wD:=by
    rw [← hQQ,Nat.add_comm,Nat.mul_comm]
    exact digit_lt hmod (by
     have h1:=val_lt okP
     have h2:=hsP.len
     have h4:=hWr.len P hmem
     have h3:4294967296 ^ P.xs.length ≤ 4294967296 ^ dLimbs:=pow_mono (by omega)
     rw [← wD_def] at h3
     omega)
   rw [hQQ] at KD st1
   have HKD:=Hj KD
   have HR:=Hj (And.intro hRow (And.intro hlen (show wv (qs.drop j) / val zs = QQ + wD * wv (acc.drop (j + 1)) by rw [hdr,st1,hq])))
   have HQ:=Hj hQlt
   obtain ⟨R2,hR2⟩:∃ R2,wv (qs.drop j) % val zs = R2:=⟨_,rfl⟩
   rw [hR2] at HKD
   have HR2:=Hj hR2
   clear KD hRow hq hlen sr HJ HI hWr hp hmem hsP okP hmod st1 st2 hdr hQQ hQlt hR2
   go_wp2_with fail
   refine (Uh HKD).mono ?_
   rintro _ w5 ⟨a5,m5,c5,a6,m6,c6,rfl,s5,n5,s6,n6,b5⟩
   have hR5:=(Uh HR).1.below b5
   obtain ⟨⟨vv,hcell⟩,hfz⟩:=hR5.at (i:=j) (by rw [(Uh HR).2.1]; omega)
   have hdg:=dig_new s5 (Uh HQ) n5 (Uh HR).1.lt
   have hput:=hR5.put (i:=j) (by rw [(Uh HR).2.1]; omega) hdg
   have c0:Chg (fun k => k = w3.heap.size) w5 (w5.setCell ⟨w3.heap.size,j,none⟩ (slV ⟨a5,m5,c5,limbs QQ⟩)):=Chg.of_set (S:=fun k => k = w3.heap.size) _ _ _ _ rfl
   have HFin:=Hj (show ByI w3 (w5.setCell ⟨w3.heap.size,j,none⟩ (slV ⟨a5,m5,c5,limbs QQ⟩)) w3.heap.size nw (val zs) j qs (.slice a6 m6 c6) from by
    have hr:=Uh HR
    refine ⟨⟨_,hput,by rw [List.length_set]; exact hr.2.1,?_⟩,⟨a6,m6,c6,rfl,?_⟩⟩
    ·rw [wv_drop_set (by rw [hr.2.1]; omega),hr.2.2,(limbs_rep QQ).val]
    ·rw [Uh HR2]
     exact s6.chg c0 (fun x hx _ h => by have h1:=n6 x hx; have h2:=hr.1.lt; omega))
   unfold slV at HFin
   clear s5 n5 s6 n6 b5 hR5 hdg hput c0 HKD HR HR2
   go_wp2_with fail
   exact ⟨⟨j,by omega,by go_num,HFin⟩,by simp [intOf]⟩

theorem by_any (w:World):ByAll w:=fun W a1 n1 c1 v ps a m c zs _ h1 hn1 h2 oy m2 hy => by
 by_cases hf:2048 < (limbs v).length
 ·by_cases hl:m ≤ 1024
  ·exact by_short a1 a n1 c1 m c v ps zs W h1 hn1 h2 oy m2 hy hf hl
  ·exact by_long a1 a n1 c1 m c v ps zs W h1 hn1 h2 oy m2 hy hf (by omega)
 ·exact by_narrow a1 a n1 c1 m c v ps zs W h1 h2 oy m2 hy hf
end Go.Proofs.YtmnlhnmlgncedaaGreatDoor
