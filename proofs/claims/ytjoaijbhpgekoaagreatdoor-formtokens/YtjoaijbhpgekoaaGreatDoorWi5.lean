/- Rp8 -/
import Derived.Test.YtjoaijbhpgekoaaGreatDoorRp3
import Derived.Test.YtjoaijbhpgekoaaGreatDoorFtm
import Derived.Test.YtjoaijbhpgekoaaGreatDoorRp4
import Derived.Test.YtjoaijbhpgekoaaGreatDoorPa2
import Derived.Test.YtjoaijbhpgekoaaGreatDoorRd1
import Derived.Test.YtjoaijbhpgekoaaGreatDoorShl
namespace Go.Proofs.YtjoaijbhpgekoaaGreatDoor
open Go.RowKit Go.Deep
set_option linter.unusedVariables false
theorem TkI.letter {w wr:World} {s:ByteArray} {Ro Rp i:Nat} (h:TkI w wr s Ro Rp i) (h8:stS s (i + 1) = 8):TkI w (wr.setCell ⟨Rp,5,none⟩ (.int .i64 (i:Nat))) s Ro Rp (i + 1):=by
 have a:hasS s 2 (i + 1) = hasS s 2 i:=by conv => lhs; unfold hasS; rw [if_neg (by omega)]
 have b:lastS s 4 (i + 1) = lastS s 4 i:=by conv => lhs; unfold lastS; rw [if_neg (by omega)]
 have c:lastS s 8 (i + 1) = i:=by unfold lastS; rw [if_pos h8]
 exact ⟨by rw [a,b,c]; exact h.p.put5 _,h.o.far h.ne _,below_put h.bel h.hp,h.hp,h.ne⟩
theorem lastS_step {s:ByteArray} {v i:Nat} (h:stS s (i + 1) ≠ v):lastS s v (i + 1) = lastS s v i:=by conv => lhs; unfold lastS; rw [if_neg h]
theorem lastS_now {s:ByteArray} {v i:Nat} (h:stS s (i + 1) = v):lastS s v (i + 1) = i:=by unfold lastS; rw [if_pos h]

set_option maxRecDepth 100000 in
set_option maxHeartbeats 16000000 in
theorem takeApart_p (s D:ByteArray) (w:World) (hs:s.size ≤ 65536) (hT:TabBh w) (hf:∀ j,j ≤ s.size → stS s (j + 1) ≠ 0) (SL PT LT:Nat) (hSL:lastS s 4 (s.size + 1) = SL) (hPT:lastS s 6 (s.size + 1) = PT) (hLT:lastS s 8 (s.size + 1) = LT) (h0:SL = 0) (h1:0 < PT) (h2:LT = 0) (h3:PT < s.size)
  (hD:∀ W,Calls Tryz.prog 55 #[.string (s.extract 0 PT),.string ⟨#[45]⟩] W fun e w' => e = .returned (.string D) ∧ w' = W) :
  Calls Tryz.prog 36 #[.string s] w fun e w' => e = .returned (.tuple #[.agg #[.bool (hasS s 2 (s.size + 1)),.string D,.int .i64 (SL:Nat),.string ⟨#[]⟩,.string (s.extract (PT + 1) s.size),.int .i64 (LT:Nat),.string ⟨#[]⟩],.int .i64 0,.bool true]) ∧ Below w.heap.size w w':=by
 obtain ⟨wo,hwo⟩:∃ x,w.alloc (.cells #[.bool false,.string ⟨#[]⟩,.int .i64 0,.string ⟨#[]⟩,.string ⟨#[]⟩,.int .i64 0,.string ⟨#[]⟩] 73) = x:=⟨_,rfl⟩
 obtain ⟨wp,hwp⟩:∃ x,wo.alloc (.cells #[.bool false,.string ⟨#[]⟩,.int .i64 0,.string ⟨#[]⟩,.string ⟨#[]⟩,.int .i64 0,.string ⟨#[]⟩] 73) = x:=⟨_,rfl⟩
 have bo:Below w.heap.size w wo:=by rw [← hwo]; exact bAl
 have bp:Below wo.heap.size wo wp:=by rw [← hwp]; exact bAl
 have so:=Sv.made w (.bool false) (.string ⟨#[]⟩) (.int .i64 0) (.string ⟨#[]⟩) (.string ⟨#[]⟩) (.int .i64 0) (.string ⟨#[]⟩) 73
 rw [hwo] at so
 have sp:=Sv.made wo (.bool false) (.string ⟨#[]⟩) (.int .i64 0) (.string ⟨#[]⟩) (.string ⟨#[]⟩) (.int .i64 0) (.string ⟨#[]⟩) 73
 rw [hwp] at sp
 have hRo:=so.lt
 have HI0:=Hj (show TkI w wp s w.heap.size wo.heap.size 0 from ⟨sp,so.keep bp,bo.trans (bp.mono bo.size),bo.size,by omega⟩)
 have HT:=Hj hT
 have HF:=Hj hf
 have HSL:=Hj hSL
 have HPT:=Hj hPT
 have HLT:=Hj hLT
 have HD:=Hj hD
 obtain ⟨NG,hNG⟩:∃ b,hasS s 2 (s.size + 1) = b:=⟨_,rfl⟩
 rw [hNG]
 have HNG:=Hj hNG
 clear so sp bo bp hT hf hSL hPT hLT hD hNG
 go_enter Tryz.func36,Tryz.ntmps36
 go_wp2_with fail
 go_loopw [5,8,15] (fun pv sv cv wr => ∃ i:Nat,i ≤ s.size + 1 ∧ pv = .int .i64 (lastS s 6 i:Nat) ∧ sv = .int .u8 (stS s i:Nat) ∧ cv = .int .i64 (i:Nat) ∧ Hid (TkI w wr s w.heap.size wo.heap.size i)) (fun _ _ cv _ => (s.size + 1) - (intOf cv).toNat)
 case atStart => exact ⟨0,by omega,rfl,rfl,rfl,Uh HI0⟩
 case round =>
  clear HI0
  obtain ⟨i,hi,rfl,rfl,rfl,HI⟩:=hrel
  obtain ⟨pv,hpv⟩:∃ z,lastS s 6 i = z:=⟨_,rfl⟩
  rw [hpv]
  have HPV:=Hj hpv
  clear hpv
  by_cases hlt:i < s.size + 1
  ·have hlt':(i:Int) < (s.size:Int) + 1:=by omega
   have hst:=stS_lt s i
   have hkd:=kdA_lt s i
   have hnx:stS s (i + 1) = nxS (stS s i) (kdA s i):=rfl
   have hTb:=(Uh HT).below (Uh HI).bel (stS s i) (kdA s i) hst hkd
   have hslt:=stS_lt s (i + 1)
   have HK:=Hj (fun W => kindAt_any s i W hs (by omega))
   rw [← hnx] at hTb
   obtain ⟨st,hsv⟩:∃ z,stS s i = z:=⟨_,rfl⟩
   obtain ⟨kd,hkv⟩:∃ z,kdA s i = z:=⟨_,rfl⟩
   obtain ⟨nx,hnv⟩:∃ z,stS s (i + 1) = z:=⟨_,rfl⟩
   rw [hsv,hkv,hnv] at hTb
   rw [hkv] at HK
   rw [hsv] at hst ⊢
   rw [hkv] at hkd
   rw [hnv] at hslt
   have HNV:=Hj hnv
   clear hnx hsv hkv hnv
   go_wp2_with fail
   have FT:=fun z:Ext wr => z.cell hTb
   have hNE:=Ext.ne wr
   have hst':(st:Int) < 12:=by omega
   have hkd':(kd:Int) < 8:=by omega
   refine wp_region_ext (by kernel_rfl) (by kernel_rfl) ?_
   repeat (go_big_quiet_step (first
    | (go_at_call 54; rename_i z; exact Ext.call (Uh HK z.w) (fun e w' h => ⟨h.1,by rw [h.2]; exact Below.refl _ _⟩))))
   refine wpQuiet_nil ?_
   rintro _ ⟨xE,rfl⟩
   clear FT hNE hTb HK
   have HI2:=Hj ((Uh HI).keep xE.bel)
   have q0:=(Uh HI2).p.f0
   have q2:=(Uh HI2).p.f2
   have q5:=(Uh HI2).p.f5
   have e0:=(Uh HI2).p.c0
   have e2:=(Uh HI2).p.c2
   have e5:=(Uh HI2).p.c5
   have n0:nx ≠ 0:=by rw [← Uh HNV]; exact Uh HF i (by omega)
   have t0:((nx:Int) == 0) = false:=by simp; omega
   by_cases hc:nx = 2
   ·have t2:((nx:Int) == 2) = true:=by simp [hc]
    have HN:=Hj ((Uh HI2).neg ((Uh HNV).trans hc))
    clear HI
    go_wp2_with fail
    exact ⟨⟨i + 1,by omega,by rw [lastS_step (by rw [Uh HNV]; omega),Uh HPV],by rw [Uh HNV],by (first | rfl | go_num),Uh HN⟩,by simp [intOf]; omega⟩
   ·have t2:((nx:Int) == 2) = false:=by simp; omega
    have hn2:=hc
    clear hc
    by_cases hc:nx = 4
    ·have t4:((nx:Int) == 4) = true:=by simp [hc]
     have HN:=Hj ((Uh HI2).slash ((Uh HNV).trans hc))
     clear HI
     go_wp2_with fail
     exact ⟨⟨i + 1,by omega,by rw [lastS_step (by rw [Uh HNV]; omega),Uh HPV],by rw [Uh HNV],by (first | rfl | go_num),Uh HN⟩,by simp [intOf]; omega⟩
    ·have t4:((nx:Int) == 4) = false:=by simp; omega
     have hn4:=hc
     clear hc
     by_cases hc:nx = 6
     ·have t6:((nx:Int) == 6) = true:=by simp [hc]
      have HN:=Hj ((Uh HI2).same (by rw [Uh HNV]; omega) (by rw [Uh HNV]; omega) (by rw [Uh HNV]; omega))
      clear HI
      go_wp2_with fail
      exact ⟨⟨i + 1,by omega,by rw [lastS_now ((Uh HNV).trans hc)],by rw [Uh HNV],by (first | rfl | go_num),Uh HN⟩,by simp [intOf]; omega⟩
     ·have t6:((nx:Int) == 6) = false:=by simp; omega
      have hn6:=hc
      clear hc
      by_cases hc:nx = 8
      ·have t8:((nx:Int) == 8) = true:=by simp [hc]
       have HN:=Hj ((Uh HI2).letter ((Uh HNV).trans hc))
       clear HI
       go_wp2_with fail
       exact ⟨⟨i + 1,by omega,by rw [lastS_step (by rw [Uh HNV]; omega),Uh HPV],by rw [Uh HNV],by (first | rfl | go_num),Uh HN⟩,by simp [intOf]; omega⟩
      ·have t8:((nx:Int) == 8) = false:=by simp; omega
       have hn8:=hc
       clear hc
       have HN:=Hj ((Uh HI2).same (by rw [Uh HNV]; omega) (by rw [Uh HNV]; omega) (by rw [Uh HNV]; omega))
       clear HI
       go_wp2_with fail
       exact ⟨⟨i + 1,by omega,by rw [lastS_step (by rw [Uh HNV]; omega),Uh HPV],by rw [Uh HNV],by (first | rfl | go_num),Uh HN⟩,by simp [intOf]; omega⟩
  ·have hie:i = s.size + 1:=by omega
   have hlt':¬ (i:Int) < (s.size:Int) + 1:=by omega
   have hpv:=Uh HPV
   rw [hie,Uh HPT] at hpv
   subst hpv
   have hTk:=Uh HI
   rw [hie] at hTk
   have hp:=hTk.p
   rw [Uh HLT,Uh HSL,Uh HNG] at hp
   have u0:=hp.c0
   have u1:=hp.c1
   have u2:=hp.c2
   have u4:=hp.c4
   have u5:=hp.c5
   have u6:=hp.c6
   have x1:=hp.f1
   have x3:=hp.f3
   have x4:=hp.f4
   have x6:=hp.f6
   have HP:=Hj hp
   have HO:=Hj (And.intro hTk.o (And.intro hTk.bel (And.intro hTk.hp hTk.ne)))
   clear hTk hp hie
   have tz:¬ (0:Int) < (SL:Int):=by omega
   have HD2:=Hj (Uh HD)
   have HH:=Hj h0
   clear h0
   have tp:(0:Int) < (PT:Int):=by omega
   have tl:¬ (0:Int) < (LT:Int):=by omega
   clear h2
   have HPP:=Hj ((Uh HP).put4 (.string (s.extract (PT + 1) s.size)))
   have HOP:=Hj (And.intro ((Uh HO).1.far (j:=4) (Uh HO).2.2.2 (.string (s.extract (PT + 1) s.size))) (And.intro (below_put (i:=4) (v:=.string (s.extract (PT + 1) s.size)) (Uh HO).2.1 (Uh HO).2.2.1) (Uh HO).2.2))
   have a1P:=(Uh HPP).c1
   have a2P:=(Uh HPP).c2
   have a4P:=(Uh HPP).c4
   have a5P:=(Uh HPP).c5
   have b1P:=(Uh HPP).f1
   have b4P:=(Uh HPP).f4
   have hp1:(PT:Int) + 1 ≤ (s.size:Int):=by omega
   have hp2:(PT:Int) ≤ (s.size:Int):=by omega
   go_wp2_with fail
   refine (Uh HD2 _).mono ?_
   rintro _ _ ⟨rfl,hw⟩
   obtain rfl:=hw.symm
   clear hw
   have HP2:=Hj ((Uh HPP).put1 (.string D))
   have HO2:=Hj ((Uh HOP).1.far (j:=1) (Uh HOP).2.2.2 (.string D))
   have HB2:=Hj (below_put (i:=1) (v:=.string D) (Uh HOP).2.1 (Uh HOP).2.2.1)
   have HF2:=Hj (((((((Uh HO2).put0 (.bool NG)).put1 (.string D)).put2 (.int .i64 (SL:Nat))).put3 (.string ⟨#[]⟩)).put4 (.string (s.extract (PT + 1) s.size))).put5 (.int .i64 (LT:Nat))).put6 (.string ⟨#[]⟩)
   have HB3:=Hj (below_put (i:=6) (v:=.string ⟨#[]⟩) (below_put (i:=5) (v:=.int .i64 (LT:Nat)) (below_put (i:=4) (v:=.string (s.extract (PT + 1) s.size)) (below_put (i:=3) (v:=.string ⟨#[]⟩) (below_put (i:=2) (v:=.int .i64 (SL:Nat)) (below_put (i:=1) (v:=.string D) (below_put (i:=0) (v:=.bool NG) (Uh HB2) (Nat.le_refl _)) (Nat.le_refl _)) (Nat.le_refl _)) (Nat.le_refl _)) (Nat.le_refl _)) (Nat.le_refl _)) (Nat.le_refl _))
   have hne:=(Uh HOP).2.2.2
   have hne2:=hne.symm
   clear u0 u1 u2 u4 u5 u6 x1 x3 x4 x6
   clear a2P a4P a5P b4P
   have y0:=(Uh HP2).c0
   have y1:=(Uh HP2).c1
   have y2:=(Uh HP2).c2
   have y3:=(Uh HP2).c3
   have y4:=(Uh HP2).c4
   have y5:=(Uh HP2).c5
   have y6:=(Uh HP2).c6
   have z0:=(Uh HO2).c0
   have g0:=(Uh HO2).f0
   have z1:=(Uh HO2).c1
   have g1:=(Uh HO2).f1
   have z2:=(Uh HO2).c2
   have g2:=(Uh HO2).f2
   have z3:=(Uh HO2).c3
   have g3:=(Uh HO2).f3
   have z4:=(Uh HO2).c4
   have g4:=(Uh HO2).f4
   have z5:=(Uh HO2).c5
   have g5:=(Uh HO2).f5
   have z6:=(Uh HO2).c6
   have g6:=(Uh HO2).f6
   go_wp2_with fail
   have k0:=(Uh HF2).c0
   have k1:=(Uh HF2).c1
   have k2:=(Uh HF2).c2
   have k3:=(Uh HF2).c3
   have k4:=(Uh HF2).c4
   have k5:=(Uh HF2).c5
   have k6:=(Uh HF2).c6
   have hB:=Uh HB3
   generalize World.setCell _ ⟨w.heap.size,6,none⟩ (.string ⟨#[]⟩) = wf at k0 k1 k2 k3 k4 k5 k6 hB ⊢
   refine bodyPost_ret (by simp [results,Tryz.results36,go_sem,k0,k1,k2,k3,k4,k5,k6]; try rfl) rfl ?_
   exact ⟨rfl,hB⟩
set_option maxHeartbeats 8000000 in
theorem lowest_any (neg:Bool) (a1 a2:Option Addr) (n1 c1 n2 c2:Nat) (xs ys:List Nat) (w:World) (h1:Sl w a1 n1 c1 xs) (h2:Sl w a2 n2 c2 ys) (ox:Ok xs) (oy:Ok ys) (m1:MayL xs = true) (m2:MayL ys = true) (hy:ys ≠ []) (hT:Tab64 w) :
  Calls Tryz.prog 39 #[.bool neg,.slice a1 n1 c1,.slice a2 n2 c2] w fun e w' => ∃ v,e = .returned v ∧ NewR w w' (neg && decide (xs ≠ [])) (limbs (val xs / Nat.gcd (val xs) (val ys))) (limbs (val ys / Nat.gcd (val xs) (val ys))) v:=by
 obtain ⟨wb,hwb⟩:∃ wb,w.alloc (.cells #[.bool false,.slice none 0 0,.slice none 0 0] 39) = wb:=⟨_,rfl⟩
 have hbb:Below w.heap.size w wb:=by rw [← hwb]; exact bAl
 have hO:Out wb w.heap.size:=by rw [← hwb]; exact Out.made w
 have KD0:=ratDivisor_any a1 a2 n1 c1 n2 c2 xs ys wb (h1.below hbb) (h2.below hbb) ox oy m1 m2 (hT.below hbb)
 have hyp:=val_pos_of_may m2 hy
 have hGp:0 < Nat.gcd (val xs) (val ys):=Nat.gcd_pos_of_pos_right _ hyp
 have hGm:MayL (limbs (Nat.gcd (val xs) (val ys))) = true:=may_small m2 oy (Nat.gcd_le_right _ hyp)
 have hQ1:MayL (limbs (val xs / Nat.gcd (val xs) (val ys))) = true:=may_div m1 ox _
 have hQ2:MayL (limbs (val ys / Nat.gcd (val xs) (val ys))) = true:=may_div m2 oy _
 have hQ0:xs ≠ [] → val xs / Nat.gcd (val xs) (val ys) ≠ 0:=fun hx => by
  have hxp:=val_pos_of_may m1 hx
  have:=Nat.div_pos (Nat.gcd_le_left (val ys) hxp) hGp
  omega
 have hQz:xs = [] → val xs / Nat.gcd (val xs) (val ys) = 0:=fun hx => by rw [hx]; simp [val]
 obtain ⟨G,hG⟩:∃ G,Nat.gcd (val xs) (val ys) = G:=⟨_,rfl⟩
 rw [hG] at KD0 hGp hGm hQ1 hQ2 hQ0 hQz ⊢
 have KD:=Hj KD0
 have HQ:=Hj (And.intro hQ0 hQz)
 have H1:=Hj h1
 have H2:=Hj h2
 have HO:=Hj hO
 have HB:=Hj hbb
 have HM:=Hj (And.intro m1 (And.intro m2 (And.intro hGm (And.intro hQ1 hQ2))))
 clear KD0 h1 h2 hO hbb m1 m2 hT hG hQ0 hQz hyp hQ1 hQ2 hGm
 go_enter Tryz.func39,Tryz.ntmps39
 go_wp2_with fail
 refine (Uh KD).mono ?_
 rintro _ w1 ⟨aG,mG,cG,rfl,sG,nG,bG⟩
 have hb1:=(Uh HB).trans (bG.mono (Uh HB).size)
 have KQ:=ratQuotient_any a1 aG n1 c1 mG cG xs (limbs G) w1 ((Uh H1).below hb1) sG ox (limbs_rep G).ok (Uh HM).1 (Uh HM).2.2.1 (limbs_ne hGp)
 rw [(limbs_rep G).val] at KQ
 have KQ':=Hj KQ
 have SG:=Hj sG
 have HB1:=Hj hb1
 have HO1:=Hj ((Uh HO).keep bG)
 clear KQ sG nG bG hb1 KD HO HB
 go_wp2_with fail
 refine (Uh KQ').mono ?_
 rintro _ w2 ⟨aq,mq,cq,rfl,sq,_,bq⟩
 have hmq:mq ≤ 1000000:=by have:=sq.len; have:=MayL.len (Uh HM).2.2.2.1; omega
 have KC:=Hj (sclone_any aq mq cq _ w2 sq hmq)
 have HB2:=Hj ((Uh HB1).trans (bq.mono (Uh HB1).size))
 have HO2:=Hj ((Uh HO1).keep bq)
 have SG2:=Hj ((Uh SG).below bq)
 clear sq bq KQ' HB1 HO1 SG
 go_wp2_with fail
 refine (Uh KC).mono ?_
 rintro _ w3 ⟨aN,mN,cN,rfl,sN,nN,bN⟩
 have hb3:=(Uh HB2).trans (bN.mono (Uh HB2).size)
 have KQ:=ratQuotient_any a2 aG n2 c2 mG cG ys (limbs G) w3 ((Uh H2).below hb3) ((Uh SG2).below bN) oy (limbs_rep G).ok (Uh HM).2.1 (Uh HM).2.2.1 (limbs_ne hGp)
 rw [(limbs_rep G).val] at KQ
 have KQ':=Hj KQ
 have HB3:=Hj hb3
 have HO3:=Hj ((Uh HO2).keep bN)
 have hN2:NewAt w.heap.size aN:=fun x hx => Nat.le_trans (Uh HB2).size (nN x hx)
 have hNR:∀ x,aN = some x → x.block ≠ w.heap.size:=fun x hx => by have h1:=nN x hx; have h2:=(Uh HO2).lt; omega
 have SN:=Hj (And.intro sN (And.intro hN2 hNR))
 clear KQ sN nN bN hb3 KC HO2 HB2 SG2 hN2 hNR
 go_wp2_with fail
 refine (Uh KQ').mono ?_
 rintro _ w4 ⟨ar,mr,cr,rfl,sr,_,br⟩
 have hmr:mr ≤ 1000000:=by have:=sr.len; have:=MayL.len (Uh HM).2.2.2.2; omega
 have KC:=Hj (sclone_any ar mr cr _ w4 sr hmr)
 have HB4:=Hj ((Uh HB3).trans (br.mono (Uh HB3).size))
 have HO4:=Hj ((Uh HO3).keep br)
 have SN4:=Hj (And.intro ((Uh SN).1.below br) (Uh SN).2)
 clear sr br KQ' HB3 HO3 SN
 go_wp2_with fail
 refine (Uh KC).mono ?_
 rintro _ w5 ⟨aD,mD,cD,rfl,sD,nD,bD⟩
 have HB5:=Hj ((Uh HB4).trans (bD.mono (Uh HB4).size))
 have HO5:=Hj ((Uh HO4).keep bD)
 have SN5:=Hj (And.intro ((Uh SN4).1.below bD) (Uh SN4).2)
 have hD2:NewAt w.heap.size aD:=fun x hx => Nat.le_trans (Uh HB4).size (nD x hx)
 have hDR:∀ x,aD = some x → x.block ≠ w.heap.size:=fun x hx => by have h1:=nD x hx; have h2:=(Uh HO4).lt; omega
 have SD:=Hj (And.intro sD (And.intro hD2 hDR))
 clear sD nD bD KC HO4 HB4 SN4 hD2 hDR
 go_wp2_with fail
 refine (signed_any neg aN aD mN cN mD cD w5).mono ?_
 rintro _ w6 ⟨rfl,b6⟩
 have hO6:=(Uh HO5).keep b6
 obtain ⟨x0,q0⟩:=hO6.cells 0 (by decide)
 obtain ⟨x1,q1⟩:=hO6.cells 1 (by decide)
 obtain ⟨x2,q2⟩:=hO6.cells 2 (by decide)
 have r0:=hO6.fz 0 (by decide)
 have r1:=hO6.fz 1 (by decide)
 have r2:=hO6.fz 2 (by decide)
 obtain ⟨SGN,hSGN⟩:∃ SGN,(neg && decide (0 < mN)) = SGN:=⟨_,rfl⟩
 rw [hSGN]
 have HSG:=Hj hSGN
 have H4:=Hj (three_set w6 w.heap.size (.bool SGN) (.slice aN mN cN) (.slice aD mD cD) hO6.cells)
 have HB6:=Hj b6
 unfold ratV
 clear hO6 b6 hSGN
 go_wp2_with fail
 obtain ⟨p0,p1,p2,c4⟩:=Uh H4
 generalize ((w6.setCell ⟨w.heap.size,0,none⟩ (.bool SGN)).setCell ⟨w.heap.size,1,none⟩ (.slice aN mN cN)).setCell ⟨w.heap.size,2,none⟩ (.slice aD mD cD) = wf at *
 refine bodyPost_ret (by simp [results,Tryz.results39,go_sem,p0,p1,p2]; try rfl) rfl ?_
 have hbf:=(Uh HB5).trans ((Uh HB6).mono (Uh HB5).size)
 refine ⟨_,rfl,aN,mN,cN,aD,mD,cD,ratV_congr ?_,((Uh SN5).1.below (Uh HB6)).chg c4 (fun x hx _ => (Uh SN5).2.2 x hx),((Uh SD).1.below (Uh HB6)).chg c4 (fun x hx _ => (Uh SD).2.2 x hx),(Uh SN5).2.1,(Uh SD).2.1,hbf.trans (c4.below hbf.size (fun k hk => by omega))⟩
 rw [← Uh HSG]
 have hl:=(Uh SN5).1.len
 have:decide (0 < mN) = decide (xs ≠ []):=by
  by_cases e:xs = []
  ·have h0:=(Uh HQ).2 e
   rw [h0] at hl
   simp [limbs_zero] at hl
   subst hl
   simp [e]
  ·have h0:=(Uh HQ).1 e
   have:0 < mN:=by
    rw [← hl]
    exact List.length_pos_iff.2 (limbs_ne (Nat.pos_of_ne_zero h0))
   simp [e,this]
 rw [this]
structure SlL (w:World) (a:Option Addr) (n c:Nat) (ps:List Pc):Prop where
 len:ps.length = n
 le:n ≤ c
 cells:ps = [] ∨ ∃ b off,a = some ⟨b,off,none⟩ ∧ ∀ i p,ps[i]? = some p → w.cell? ⟨b,off + i,none⟩ = some (.slice p.a p.n p.c)
 each:∀ p ∈ ps,Sl w p.a p.n p.c p.xs ∧ Ok p.xs

theorem SlL.below {w w':World} {a:Option Addr} {n c:Nat} {ps:List Pc} (h:SlL w a n c ps) (k:Below w.heap.size w w'):SlL w' a n c ps:=by
 refine ⟨h.len,h.le,?_,fun p hp => ⟨(h.each p hp).1.below k,(h.each p hp).2⟩⟩
 rcases h.cells with e | ⟨b,off,e,hc⟩
 ·exact .inl e
 ·refine .inr ⟨b,off,e,fun i p hp => ?_⟩
  have h1:=hc i p hp
  have hb:=World.block_lt_of_cell? _ _ h1
  have:w'.cell? ⟨b,off + i,none⟩ = w.cell? ⟨b,off + i,none⟩:=by unfold World.cell?; simp only; rw [k.block b hb]
  rw [this]; exact h1

theorem SlL.at' {w:World} {a:Option Addr} {n c:Nat} {ps:List Pc} (h:SlL w a n c ps) {i:Nat} (hi:i < n) :
  ∃ b off p,a = some ⟨b,off,none⟩ ∧ ps[i]? = some p ∧ w.cell? ⟨b,off + i,none⟩ = some (.slice p.a p.n p.c) ∧ Sl w p.a p.n p.c p.xs ∧ Ok p.xs:=by
 have hl:=h.len
 have hi':i < ps.length:=by omega
 have hp:ps[i]? = some ps[i]:=List.getElem?_eq_getElem hi'
 rcases h.cells with e | ⟨b,off,e,hc⟩
 ·rw [e] at hl; simp at hl; omega
 ·exact ⟨b,off,ps[i],e,hp,hc i _ hp,h.each _ (List.getElem_mem hi')⟩




structure Trimmed (ps qs:List Pc) (m:Nat):Prop where
 le:m ≤ ps.length
 eq:qs = ps.take m
 zero:∀ i p,m ≤ i → ps[i]? = some p → p.xs = []
 top:m = 0 ∨ ∃ p,ps[m - 1]? = some p ∧ p.xs ≠ []

theorem SlL.take {w:World} {a:Option Addr} {n c:Nat} {ps:List Pc} (h:SlL w a n c ps) {m:Nat} (hm:m ≤ n):SlL w a m c (ps.take m):=by
 have hl:=h.len
 refine ⟨by rw [List.length_take]; omega,Nat.le_trans hm h.le,?_,fun p hp => h.each p (List.mem_of_mem_take hp)⟩
 rcases h.cells with e | ⟨b,off,e,hc⟩
 ·left; rw [e]; simp
 ·right
  refine ⟨b,off,e,fun i p hp => hc i p ?_⟩
  rw [List.getElem?_take] at hp
  split at hp
  ·exact hp
  ·cases hp
def dLimbs:Nat:=1024
def wD:Nat:=4294967296 ^ dLimbs
def wv:List Pc → Nat
 | [] => 0
 | p :: ps => val p.xs + wD * wv ps

structure Wide (w:World) (a:Option Addr) (n c:Nat) (v:Nat) (ps:List Pc):Prop where
 sl:SlL w a n c ps
 norm:∀ p ∈ ps,Norm p.xs
 len:∀ p ∈ ps,p.n ≤ dLimbs
 top:ps = [] ∨ ∃ p,ps.getLast? = some p ∧ p.xs ≠ []
 val:wv ps = v

theorem Wide.below {w w':World} {a:Option Addr} {n c v:Nat} {ps:List Pc} (h:Wide w a n c v ps) (k:Below w.heap.size w w'):Wide w' a n c v ps:=⟨h.sl.below k,h.norm,h.len,h.top,h.val⟩


theorem wv_zero:∀ (l:List Pc),(∀ p ∈ l,p.xs = []) → wv l = 0
 | [],_ => rfl
 | p :: l,h => by
  simp only [wv]
  rw [h p (by simp),wv_zero l (fun q hq => h q (by simp [hq])),Nat.mul_zero]
  rfl
theorem wv_append (l m:List Pc):wv (l ++ m) = wv l + wD ^ l.length * wv m:=by
 induction l with
 | nil => simp [wv]
 | cons q l ih =>
  simp only [List.cons_append,wv,ih,List.length_cons,Nat.pow_succ,Nat.mul_add]
  rw [Nat.add_assoc,Nat.mul_comm (wD ^ l.length) wD,Nat.mul_assoc]
theorem Trimmed.wv {ps qs:List Pc} {m:Nat} (h:Trimmed ps qs m):wv qs = Go.Proofs.YtjoaijbhpgekoaaGreatDoor.wv ps:=by
 have e:ps = ps.take m ++ ps.drop m:=(List.take_append_drop m ps).symm
 rw [h.eq]
 conv => rhs; rw [e]
 rw [wv_append,wv_zero (ps.drop m) (fun p hp => ?_),Nat.mul_zero,Nat.add_zero]
 obtain ⟨i,hi⟩:=List.mem_iff_getElem?.1 hp
 rw [List.getElem?_drop] at hi
 exact h.zero (m + i) p (by omega) hi
def slV (p:Pc):Value:=.slice p.a p.n p.c
structure Dig (w:World) (g:Nat) (p:Pc):Prop where
 sl:Sl w p.a p.n p.c p.xs
 ok:Ok p.xs
 norm:Norm p.xs
 len:p.n ≤ dLimbs
 off:p.xs ≠ [] → ∀ x,p.a = some x → x.block ≠ g
theorem Dig.below {w w':World} {g:Nat} {p:Pc} (h:Dig w g p) (k:Below w.heap.size w w'):Dig w' g p:=⟨h.sl.below k,h.ok,h.norm,h.len,h.off⟩
theorem chg_grownR {w w':World} {g:Nat} (h:w.grownBy w' (some g)):Chg (fun k => k = g) w w' :=
 ⟨h.os,h.tape,h.output,h.size,fun k hk hs => h.block k hk (fun e => hs (by simpa using e))⟩
theorem Dig.grown {w w':World} {g:Nat} {p:Pc} (h:Dig w g p) (k:w.grownBy w' (some g)):Dig w' g p :=
 ⟨h.sl.chg (chg_grownR k) (fun x hx hn => h.off hn x hx),h.ok,h.norm,h.len,h.off⟩
structure RowD (w wr:World) (g cap:Nat) (acc:List Pc):Prop where
 own:wr.ownsRow w.heap.size 37 1 (.slice (some ⟨g,0,none⟩) acc.length cap) acc.length (acc.map slV)
 each:∀ p ∈ acc,Dig wr g p
 bel:Below w.heap.size w wr
 lt:g < wr.heap.size
 ge:w.heap.size ≤ g
theorem own_belR {w w2:World} {B:Nat} {e:TypeId} {sz:Nat} {v:Value} {n:Nat} {xs:List Value} (h:w.ownsRow B e sz v n xs) (hb:Below w.heap.size w w2):w2.ownsRow B e sz v n xs:=by
 rcases h with ⟨h1,h2 | ⟨g,cap,cur,e1,q1,q2,q3⟩⟩
 ·exact ⟨h1,.inl h2⟩
 ·refine ⟨h1,.inr ⟨g,cap,cur,e1,q1,?_,q3⟩⟩
  rw [hb.block g (Array.getElem?_eq_some_iff.1 q2).1]
  exact q2
theorem RowD.below {w wr w2:World} {g cap:Nat} {acc:List Pc} (h:RowD w wr g cap acc) (hb:Below wr.heap.size wr w2):RowD w w2 g cap acc :=
 ⟨own_belR h.own hb,fun p hp => (h.each p hp).below hb,h.bel.trans (hb.mono h.bel.size),Nat.lt_of_lt_of_le h.lt hb.size,h.ge⟩
theorem RowD.app {w wr w2:World} {g cap:Nat} {acc:List Pc} {p:Pc} {o:Obj} (h:RowD w wr g cap acc) (hp:Dig wr g p) (hown:w2.ownsRow w.heap.size 37 1 (.slice (some ⟨g,0,none⟩) (acc.length + 1) cap) (acc.length + 1) (acc.map slV ++ [slV p])) (hg:(wr.alloc o).grownBy w2 (some g)):RowD w w2 g cap (acc ++ [p]):=by
 have hal:=h.below ((Below.refl wr.heap.size wr).alloc (Nat.le_refl _) o)
 refine ⟨?_,fun q hq => ?_,?_,Nat.lt_of_lt_of_le hal.lt hg.size,h.ge⟩
 ·simpa using hown
 ·rcases List.mem_append.1 hq with c | c
  ·exact (hal.each q c).grown hg
  ·rw [List.mem_singleton.1 c]
   exact (hp.below ((Below.refl wr.heap.size wr).alloc (Nat.le_refl _) o)).grown hg
 ·have hc:=chg_grownR hg
  exact ⟨hc.os.trans hal.bel.os,hc.tape.trans hal.bel.tape,hc.output.trans hal.bel.output,Nat.le_trans hal.bel.size hc.size,fun k hk => by
   have hge:=h.ge
   rw [hc.block k (Nat.lt_of_lt_of_le hk hal.bel.size) (by omega)]
   exact hal.bel.block k hk⟩
theorem RowD.sl {w wr:World} {g cap:Nat} {acc:List Pc} (h:RowD w wr g cap acc):SlL wr (some ⟨g,0,none⟩) acc.length cap acc:=by
 rcases h.own.2 with ⟨e,_⟩ | ⟨g',cap',cur,e,q1,q2,q3,q4,q5,q6⟩
 ·cases e
 ·simp only [Value.slice.injEq,Option.some.injEq,Addr.mk.injEq,and_true,true_and] at e
  obtain ⟨rfl,rfl⟩:=e
  refine ⟨rfl,q3,.inr ⟨g,0,rfl,fun i p hp => ?_⟩,fun p hp => ⟨(h.each p hp).sl,(h.each p hp).ok⟩⟩
  have hi:i < acc.length:=(List.getElem?_eq_some_iff.1 hp).1
  have h2:(acc.map slV)[i]? = some (slV p):=by rw [List.getElem?_map,hp]; rfl
  rw [← q6,Nat.mul_one,List.getElem?_take_of_lt hi] at h2
  simp only [World.cell?,q2,Nat.zero_add]
  simpa [slV] using h2
end Go.Proofs.YtjoaijbhpgekoaaGreatDoor
