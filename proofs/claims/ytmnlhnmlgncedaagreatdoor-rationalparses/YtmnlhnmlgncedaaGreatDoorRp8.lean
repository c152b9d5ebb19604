/- Rp8 -/
import Derived.Test.YtmnlhnmlgncedaaGreatDoorRp3
namespace Go.Proofs.YtmnlhnmlgncedaaGreatDoor
open Go.RowKit Go.Deep
set_option linter.unusedVariables false
theorem TkI.letter {w wr:World} {s:ByteArray} {Ro Rp i:Nat} (h:TkI w wr s Ro Rp i) (h8:stS s (i + 1) = 8):TkI w (wr.setCell ⟨Rp,5,none⟩ (.int .i64 (i:Nat))) s Ro Rp (i + 1):=by
 have a:hasS s 2 (i + 1) = hasS s 2 i:=by conv => lhs; unfold hasS; rw [if_neg (by omega)]
 have b:lastS s 4 (i + 1) = lastS s 4 i:=by conv => lhs; unfold lastS; rw [if_neg (by omega)]
 have c:lastS s 8 (i + 1) = i:=by unfold lastS; rw [if_pos h8]
 exact ⟨by rw [a,b,c]; exact h.p.put5 _,h.o.far h.ne _,below_put h.bel h.hp,h.hp,h.ne⟩
theorem lastS_step {s:ByteArray} {v i:Nat} (h:stS s (i + 1) ≠ v):lastS s v (i + 1) = lastS s v i:=by conv => lhs; unfold lastS; rw [if_neg h]
theorem lastS_now {s:ByteArray} {v i:Nat} (h:stS s (i + 1) = v):lastS s v (i + 1) = i:=by unfold lastS; rw [if_pos h]

set_option maxRecDepth 100000 in
set_option maxHeartbeats 16000000 in
theorem takeApart_bad (s D:ByteArray) (w:World) (hs:s.size ≤ 65536) (hT:TabBh w) (b:Nat) (hb:b ≤ s.size) (hz:stS s (b + 1) = 0) (hf:∀ j,j < b → stS s (j + 1) ≠ 0) :
  Calls Tryz.prog 31 #[.string s] w fun e w' => e = .returned (.tuple #[.agg #[.bool false,.string ⟨#[]⟩,.int .i64 0,.string ⟨#[]⟩,.string ⟨#[]⟩,.int .i64 0,.string ⟨#[]⟩],.int .i64 (b:Nat),.bool false]) ∧ Below w.heap.size w w':=by
 obtain ⟨wo,hwo⟩:∃ x,w.alloc (.cells #[.bool false,.string ⟨#[]⟩,.int .i64 0,.string ⟨#[]⟩,.string ⟨#[]⟩,.int .i64 0,.string ⟨#[]⟩] 64) = x:=⟨_,rfl⟩
 obtain ⟨wp,hwp⟩:∃ x,wo.alloc (.cells #[.bool false,.string ⟨#[]⟩,.int .i64 0,.string ⟨#[]⟩,.string ⟨#[]⟩,.int .i64 0,.string ⟨#[]⟩] 64) = x:=⟨_,rfl⟩
 have bo:Below w.heap.size w wo:=by rw [← hwo]; exact bAl
 have bp:Below wo.heap.size wo wp:=by rw [← hwp]; exact bAl
 have so:=Sv.made w (.bool false) (.string ⟨#[]⟩) (.int .i64 0) (.string ⟨#[]⟩) (.string ⟨#[]⟩) (.int .i64 0) (.string ⟨#[]⟩) 64
 rw [hwo] at so
 have sp:=Sv.made wo (.bool false) (.string ⟨#[]⟩) (.int .i64 0) (.string ⟨#[]⟩) (.string ⟨#[]⟩) (.int .i64 0) (.string ⟨#[]⟩) 64
 rw [hwp] at sp
 have hRo:=so.lt
 have HI0:=Hj (show TkI w wp s w.heap.size wo.heap.size 0 from ⟨sp,so.keep bp,bo.trans (bp.mono bo.size),bo.size,by omega⟩)
 have HT:=Hj hT
 have HF:=Hj hf
 have HZ:=Hj hz
 clear so sp bo bp hT hf hz
 go_enter Tryz.func31,Tryz.ntmps31
 go_wp2_with fail
 go_loopw [5,8,15] (fun pv sv cv wr => ∃ i:Nat,i ≤ b ∧ pv = .int .i64 (lastS s 6 i:Nat) ∧ sv = .int .u8 (stS s i:Nat) ∧ cv = .int .i64 (i:Nat) ∧ Hid (TkI w wr s w.heap.size wo.heap.size i)) (fun _ _ cv _ => (s.size + 1) - (intOf cv).toNat)
 case atStart => exact ⟨0,by omega,rfl,rfl,rfl,Uh HI0⟩
 case round =>
  clear HI0
  obtain ⟨i,hi,rfl,rfl,rfl,HI⟩:=hrel
  obtain ⟨pv,hpv⟩:∃ z,lastS s 6 i = z:=⟨_,rfl⟩
  rw [hpv]
  have HPV:=Hj hpv
  clear hpv
  by_cases hlt:i < s.size + 1
  ·have hlt':(i:Int) < (s.size:Int) + 1:=by omega
   have hst:=stS_lt s i
   have hkd:=kdA_lt s i
   have hnx:stS s (i + 1) = nxS (stS s i) (kdA s i):=rfl
   have hTb:=(Uh HT).below (Uh HI).bel (stS s i) (kdA s i) hst hkd
   have hslt:=stS_lt s (i + 1)
   have HK:=Hj (fun W => kindAt_any s i W hs (by omega))
   rw [← hnx] at hTb
   obtain ⟨st,hsv⟩:∃ z,stS s i = z:=⟨_,rfl⟩
   obtain ⟨kd,hkv⟩:∃ z,kdA s i = z:=⟨_,rfl⟩
   obtain ⟨nx,hnv⟩:∃ z,stS s (i + 1) = z:=⟨_,rfl⟩
   rw [hsv,hkv,hnv] at hTb
   rw [hkv] at HK
   rw [hsv] at hst ⊢
   rw [hkv] at hkd
   rw [hnv] at hslt
   have HNV:=Hj hnv
   clear hnx hsv hkv hnv
   go_wp2_with fail
   have FT:=fun z:Ext wr => z.cell hTb
   have hNE:=Ext.ne wr
   have hst':(st:Int) < 12:=by omega
   have hkd':(kd:Int) < 8:=by omega
   refine wp_region_ext (by kernel_rfl) (by kernel_rfl) ?_
   repeat (go_big_quiet_step (first
    | (go_at_call 64; rename_i z; exact Ext.call (Uh HK z.w) (fun e w' h => ⟨h.1,by rw [h.2]; exact Below.refl _ _⟩))))
   refine wpQuiet_nil ?_
   rintro _ ⟨xE,rfl⟩
   clear FT hNE hTb HK
   have HI2:=Hj ((Uh HI).keep xE.bel)
   have q0:=(Uh HI2).p.f0
   have q2:=(Uh HI2).p.f2
   have q5:=(Uh HI2).p.f5
   have e0:=(Uh HI2).p.c0
   have e2:=(Uh HI2).p.c2
   have e5:=(Uh HI2).p.c5
   by_cases hib:i = b
   ·obtain rfl:=hib
    have hn0:nx = 0:=(Uh HNV).symm.trans (Uh HZ)
    have t0:((nx:Int) == 0) = true:=by simp [hn0]
    have HO2:=Hj (Uh HI2).o
    have HB2:=Hj (Uh HI2).bel
    have HF2:=Hj (((((((Uh HO2).put0 (.bool false)).put1 (.string ⟨#[]⟩)).put2 (.int .i64 0)).put3 (.string ⟨#[]⟩)).put4 (.string ⟨#[]⟩)).put5 (.int .i64 0)).put6 (.string ⟨#[]⟩)
    have HB3:=Hj (below_put (i:=6) (v:=.string ⟨#[]⟩) (below_put (i:=5) (v:=.int .i64 0) (below_put (i:=4) (v:=.string ⟨#[]⟩) (below_put (i:=3) (v:=.string ⟨#[]⟩) (below_put (i:=2) (v:=.int .i64 0) (below_put (i:=1) (v:=.string ⟨#[]⟩) (below_put (i:=0) (v:=.bool false) (Uh HB2) (Nat.le_refl _)) (Nat.le_refl _)) (Nat.le_refl _)) (Nat.le_refl _)) (Nat.le_refl _)) (Nat.le_refl _)) (Nat.le_refl _))
    have z0:=(Uh HO2).c0
    have g0:=(Uh HO2).f0
    have z1:=(Uh HO2).c1
    have g1:=(Uh HO2).f1
    have z2:=(Uh HO2).c2
    have g2:=(Uh HO2).f2
    have z3:=(Uh HO2).c3
    have g3:=(Uh HO2).f3
    have z4:=(Uh HO2).c4
    have g4:=(Uh HO2).f4
    have z5:=(Uh HO2).c5
    have g5:=(Uh HO2).f5
    have z6:=(Uh HO2).c6
    have g6:=(Uh HO2).f6
    clear hn0 q0 q2 q5 e0 e2 e5
    go_wp2_with fail
    have k0:=(Uh HF2).c0
    have k1:=(Uh HF2).c1
    have k2:=(Uh HF2).c2
    have k3:=(Uh HF2).c3
    have k4:=(Uh HF2).c4
    have k5:=(Uh HF2).c5
    have k6:=(Uh HF2).c6
    have hB:=Uh HB3
    generalize World.setCell _ ⟨w.heap.size,6,none⟩ (.string ⟨#[]⟩) = wf at k0 k1 k2 k3 k4 k5 k6 hB ⊢
    refine bodyPost_ret (by simp [results,Tryz.results31,go_sem,k0,k1,k2,k3,k4,k5,k6]; try rfl) rfl ?_
    exact ⟨rfl,hB⟩
   ·have n0:nx ≠ 0:=by rw [← Uh HNV]; exact Uh HF i (by omega)
    have hib':i < b:=by omega
    have t0:((nx:Int) == 0) = false:=by simp; omega
    by_cases hc:nx = 2
    ·have t2:((nx:Int) == 2) = true:=by simp [hc]
     have HN:=Hj ((Uh HI2).neg ((Uh HNV).trans hc))
     clear HI
     go_wp2_with fail
     exact ⟨⟨i + 1,by omega,by rw [lastS_step (by rw [Uh HNV]; omega),Uh HPV],by rw [Uh HNV],by (first | rfl | go_num),Uh HN⟩,by simp [intOf]; omega⟩
    ·have t2:((nx:Int) == 2) = false:=by simp; omega
     have hn2:=hc
     clear hc
     by_cases hc:nx = 4
     ·have t4:((nx:Int) == 4) = true:=by simp [hc]
      have HN:=Hj ((Uh HI2).slash ((Uh HNV).trans hc))
      clear HI
      go_wp2_with fail
      exact ⟨⟨i + 1,by omega,by rw [lastS_step (by rw [Uh HNV]; omega),Uh HPV],by rw [Uh HNV],by (first | rfl | go_num),Uh HN⟩,by simp [intOf]; omega⟩
     ·have t4:((nx:Int) == 4) = false:=by simp; omega
      have hn4:=hc
      clear hc
      by_cases hc:nx = 6
      ·have t6:((nx:Int) == 6) = true:=by simp [hc]
       have HN:=Hj ((Uh HI2).same (by rw [Uh HNV]; omega) (by rw [Uh HNV]; omega) (by rw [Uh HNV]; omega))
       clear HI
       go_wp2_with fail
       exact ⟨⟨i + 1,by omega,by rw [lastS_now ((Uh HNV).trans hc)],by rw [Uh HNV],by (first | rfl | go_num),Uh HN⟩,by simp [intOf]; omega⟩
      ·have t6:((nx:Int) == 6) = false:=by simp; omega
       have hn6:=hc
       clear hc
       by_cases hc:nx = 8
       ·have t8:((nx:Int) == 8) = true:=by simp [hc]
        have HN:=Hj ((Uh HI2).letter ((Uh HNV).trans hc))
        clear HI
        go_wp2_with fail
        exact ⟨⟨i + 1,by omega,by rw [lastS_step (by rw [Uh HNV]; omega),Uh HPV],by rw [Uh HNV],by (first | rfl | go_num),Uh HN⟩,by simp [intOf]; omega⟩
       ·have t8:((nx:Int) == 8) = false:=by simp; omega
        have hn8:=hc
        clear hc
        have HN:=Hj ((Uh HI2).same (by rw [Uh HNV]; omega) (by rw [Uh HNV]; omega) (by rw [Uh HNV]; omega))
        clear HI
        go_wp2_with fail
        exact ⟨⟨i + 1,by omega,by rw [lastS_step (by rw [Uh HNV]; omega),Uh HPV],by rw [Uh HNV],by (first | rfl | go_num),Uh HN⟩,by simp [intOf]; omega⟩
  ·omega
set_option maxRecDepth 100000 in
set_option maxHeartbeats 16000000 in
theorem takeApart_p (s D:ByteArray) (w:World) (hs:s.size ≤ 65536) (hT:TabBh w) (hf:∀ j,j ≤ s.size → stS s (j + 1) ≠ 0) (SL PT LT:Nat) (hSL:lastS s 4 (s.size + 1) = SL) (hPT:lastS s 6 (s.size + 1) = PT) (hLT:lastS s 8 (s.size + 1) = LT) (h0:SL = 0) (h1:0 < PT) (h2:LT = 0) (h3:PT < s.size)
  (hD:∀ W,Calls Tryz.prog 65 #[.string (s.extract 0 PT),.string ⟨#[45]⟩] W fun e w' => e = .returned (.string D) ∧ w' = W) :
  Calls Tryz.prog 31 #[.string s] w fun e w' => e = .returned (.tuple #[.agg #[.bool (hasS s 2 (s.size + 1)),.string D,.int .i64 (SL:Nat),.string ⟨#[]⟩,.string (s.extract (PT + 1) s.size),.int .i64 (LT:Nat),.string ⟨#[]⟩],.int .i64 0,.bool true]) ∧ Below w.heap.size w w':=by
 obtain ⟨wo,hwo⟩:∃ x,w.alloc (.cells #[.bool false,.string ⟨#[]⟩,.int .i64 0,.string ⟨#[]⟩,.string ⟨#[]⟩,.int .i64 0,.string ⟨#[]⟩] 64) = x:=⟨_,rfl⟩
 obtain ⟨wp,hwp⟩:∃ x,wo.alloc (.cells #[.bool false,.string ⟨#[]⟩,.int .i64 0,.string ⟨#[]⟩,.string ⟨#[]⟩,.int .i64 0,.string ⟨#[]⟩] 64) = x:=⟨_,rfl⟩
 have bo:Below w.heap.size w wo:=by rw [← hwo]; exact bAl
 have bp:Below wo.heap.size wo wp:=by rw [← hwp]; exact bAl
 have so:=Sv.made w (.bool false) (.string ⟨#[]⟩) (.int .i64 0) (.string ⟨#[]⟩) (.string ⟨#[]⟩) (.int .i64 0) (.string ⟨#[]⟩) 64
 rw [hwo] at so
 have sp:=Sv.made wo (.bool false) (.string ⟨#[]⟩) (.int .i64 0) (.string ⟨#[]⟩) (.string ⟨#[]⟩) (.int .i64 0) (.string ⟨#[]⟩) 64
 rw [hwp] at sp
 have hRo:=so.lt
 have HI0:=Hj (show TkI w wp s w.heap.size wo.heap.size 0 from ⟨sp,so.keep bp,bo.trans (bp.mono bo.size),bo.size,by omega⟩)
 have HT:=Hj hT
 have HF:=Hj hf
 have HSL:=Hj hSL
 have HPT:=Hj hPT
 have HLT:=Hj hLT
 have HD:=Hj hD
 obtain ⟨NG,hNG⟩:∃ b,hasS s 2 (s.size + 1) = b:=⟨_,rfl⟩
 rw [hNG]
 have HNG:=Hj hNG
 clear so sp bo bp hT hf hSL hPT hLT hD hNG
 go_enter Tryz.func31,Tryz.ntmps31
 go_wp2_with fail
 go_loopw [5,8,15] (fun pv sv cv wr => ∃ i:Nat,i ≤ s.size + 1 ∧ pv = .int .i64 (lastS s 6 i:Nat) ∧ sv = .int .u8 (stS s i:Nat) ∧ cv = .int .i64 (i:Nat) ∧ Hid (TkI w wr s w.heap.size wo.heap.size i)) (fun _ _ cv _ => (s.size + 1) - (intOf cv).toNat)
 case atStart => exact ⟨0,by omega,rfl,rfl,rfl,Uh HI0⟩
 case round =>
  clear HI0
  obtain ⟨i,hi,rfl,rfl,rfl,HI⟩:=hrel
  obtain ⟨pv,hpv⟩:∃ z,lastS s 6 i = z:=⟨_,rfl⟩
  rw [hpv]
  have HPV:=Hj hpv
  clear hpv
  by_cases hlt:i < s.size + 1
  ·have hlt':(i:Int) < (s.size:Int) + 1:=by omega
   have hst:=stS_lt s i
   have hkd:=kdA_lt s i
   have hnx:stS s (i + 1) = nxS (stS s i) (kdA s i):=rfl
   have hTb:=(Uh HT).below (Uh HI).bel (stS s i) (kdA s i) hst hkd
   have hslt:=stS_lt s (i + 1)
   have HK:=Hj (fun W => kindAt_any s i W hs (by omega))
   rw [← hnx] at hTb
   obtain ⟨st,hsv⟩:∃ z,stS s i = z:=⟨_,rfl⟩
   obtain ⟨kd,hkv⟩:∃ z,kdA s i = z:=⟨_,rfl⟩
   obtain ⟨nx,hnv⟩:∃ z,stS s (i + 1) = z:=⟨_,rfl⟩
   rw [hsv,hkv,hnv] at hTb
   rw [hkv] at HK
   rw [hsv] at hst ⊢
   rw [hkv] at hkd
   rw [hnv] at hslt
   have HNV:=Hj hnv
   clear hnx hsv hkv hnv
   go_wp2_with fail
   have FT:=fun z:Ext wr => z.cell hTb
   have hNE:=Ext.ne wr
   have hst':(st:Int) < 12:=by omega
   have hkd':(kd:Int) < 8:=by omega
   refine wp_region_ext (by kernel_rfl) (by kernel_rfl) ?_
   repeat (go_big_quiet_step (first
    | (go_at_call 64; rename_i z; exact Ext.call (Uh HK z.w) (fun e w' h => ⟨h.1,by rw [h.2]; exact Below.refl _ _⟩))))
   refine wpQuiet_nil ?_
   rintro _ ⟨xE,rfl⟩
   clear FT hNE hTb HK
   have HI2:=Hj ((Uh HI).keep xE.bel)
   have q0:=(Uh HI2).p.f0
   have q2:=(Uh HI2).p.f2
   have q5:=(Uh HI2).p.f5
   have e0:=(Uh HI2).p.c0
   have e2:=(Uh HI2).p.c2
   have e5:=(Uh HI2).p.c5
   have n0:nx ≠ 0:=by rw [← Uh HNV]; exact Uh HF i (by omega)
   have t0:((nx:Int) == 0) = false:=by simp; omega
   by_cases hc:nx = 2
   ·have t2:((nx:Int) == 2) = true:=by simp [hc]
    have HN:=Hj ((Uh HI2).neg ((Uh HNV).trans hc))
    clear HI
    go_wp2_with fail
    exact ⟨⟨i + 1,by omega,by rw [lastS_step (by rw [Uh HNV]; omega),Uh HPV],by rw [Uh HNV],by (first | rfl | go_num),Uh HN⟩,by simp [intOf]; omega⟩
   ·have t2:((nx:Int) == 2) = false:=by simp; omega
    have hn2:=hc
    clear hc
    by_cases hc:nx = 4
    ·have t4:((nx:Int) == 4) = true:=by simp [hc]
     have HN:=Hj ((Uh HI2).slash ((Uh HNV).trans hc))
     clear HI
     go_wp2_with fail
     exact ⟨⟨i + 1,by omega,by rw [lastS_step (by rw [Uh HNV]; omega),Uh HPV],by rw [Uh HNV],by (first | rfl | go_num),Uh HN⟩,by simp [intOf]; omega⟩
    ·have t4:((nx:Int) == 4) = false:=by simp; omega
     have hn4:=hc
     clear hc
     by_cases hc:nx = 6
     ·have t6:((nx:Int) == 6) = true:=by simp [hc]
      have HN:=Hj ((Uh HI2).same (by rw [Uh HNV]; omega) (by rw [Uh HNV]; omega) (by rw [Uh HNV]; omega))
      clear HI
      go_wp2_with fail
      exact ⟨⟨i + 1,by omega,by rw [lastS_now ((Uh HNV).trans hc)],by rw [Uh HNV],by (first | rfl | go_num),Uh HN⟩,by simp [intOf]; omega⟩
     ·have t6:((nx:Int) == 6) = false:=by simp; omega
      have hn6:=hc
      clear hc
      by_cases hc:nx = 8
      ·have t8:((nx:Int) == 8) = true:=by simp [hc]
       have HN:=Hj ((Uh HI2).letter ((Uh HNV).trans hc))
       clear HI
       go_wp2_with fail
       exact ⟨⟨i + 1,by omega,by rw [lastS_step (by rw [Uh HNV]; omega),Uh HPV],by rw [Uh HNV],by (first | rfl | go_num),Uh HN⟩,by simp [intOf]; omega⟩
      ·have t8:((nx:Int) == 8) = false:=by simp; omega
       have hn8:=hc
       clear hc
       have HN:=Hj ((Uh HI2).same (by rw [Uh HNV]; omega) (by rw [Uh HNV]; omega) (by rw [Uh HNV]; omega))
       clear HI
       go_wp2_with fail
       exact ⟨⟨i + 1,by omega,by rw [lastS_step (by rw [Uh HNV]; omega),Uh HPV],by rw [Uh HNV],by (first | rfl | go_num),Uh HN⟩,by simp [intOf]; omega⟩
  ·have hie:i = s.size + 1:=by omega
   have hlt':¬ (i:Int) < (s.size:Int) + 1:=by omega
   have hpv:=Uh HPV
   rw [hie,Uh HPT] at hpv
   subst hpv
   have hTk:=Uh HI
   rw [hie] at hTk
   have hp:=hTk.p
   rw [Uh HLT,Uh HSL,Uh HNG] at hp
   have u0:=hp.c0
   have u1:=hp.c1
   have u2:=hp.c2
   have u4:=hp.c4
   have u5:=hp.c5
   have u6:=hp.c6
   have x1:=hp.f1
   have x3:=hp.f3
   have x4:=hp.f4
   have x6:=hp.f6
   have HP:=Hj hp
   have HO:=Hj (And.intro hTk.o (And.intro hTk.bel (And.intro hTk.hp hTk.ne)))
   clear hTk hp hie
   have tz:¬ (0:Int) < (SL:Int):=by omega
   have HD2:=Hj (Uh HD)
   have HH:=Hj h0
   clear h0
   have tp:(0:Int) < (PT:Int):=by omega
   have tl:¬ (0:Int) < (LT:Int):=by omega
   clear h2
   have HPP:=Hj ((Uh HP).put4 (.string (s.extract (PT + 1) s.size)))
   have HOP:=Hj (And.intro ((Uh HO).1.far (j:=4) (Uh HO).2.2.2 (.string (s.extract (PT + 1) s.size))) (And.intro (below_put (i:=4) (v:=.string (s.extract (PT + 1) s.size)) (Uh HO).2.1 (Uh HO).2.2.1) (Uh HO).2.2))
   have a1P:=(Uh HPP).c1
   have a2P:=(Uh HPP).c2
   have a4P:=(Uh HPP).c4
   have a5P:=(Uh HPP).c5
   have b1P:=(Uh HPP).f1
   have b4P:=(Uh HPP).f4
   have hp1:(PT:Int) + 1 ≤ (s.size:Int):=by omega
   have hp2:(PT:Int) ≤ (s.size:Int):=by omega
   go_wp2_with fail
   refine (Uh HD2 _).mono ?_
   rintro _ _ ⟨rfl,hw⟩
   obtain rfl:=hw.symm
   clear hw
   have HP2:=Hj ((Uh HPP).put1 (.string D))
   have HO2:=Hj ((Uh HOP).1.far (j:=1) (Uh HOP).2.2.2 (.string D))
   have HB2:=Hj (below_put (i:=1) (v:=.string D) (Uh HOP).2.1 (Uh HOP).2.2.1)
   have HF2:=Hj (((((((Uh HO2).put0 (.bool NG)).put1 (.string D)).put2 (.int .i64 (SL:Nat))).put3 (.string ⟨#[]⟩)).put4 (.string (s.extract (PT + 1) s.size))).put5 (.int .i64 (LT:Nat))).put6 (.string ⟨#[]⟩)
   have HB3:=Hj (below_put (i:=6) (v:=.string ⟨#[]⟩) (below_put (i:=5) (v:=.int .i64 (LT:Nat)) (below_put (i:=4) (v:=.string (s.extract (PT + 1) s.size)) (below_put (i:=3) (v:=.string ⟨#[]⟩) (below_put (i:=2) (v:=.int .i64 (SL:Nat)) (below_put (i:=1) (v:=.string D) (below_put (i:=0) (v:=.bool NG) (Uh HB2) (Nat.le_refl _)) (Nat.le_refl _)) (Nat.le_refl _)) (Nat.le_refl _)) (Nat.le_refl _)) (Nat.le_refl _)) (Nat.le_refl _))
   have hne:=(Uh HOP).2.2.2
   have hne2:=hne.symm
   clear u0 u1 u2 u4 u5 u6 x1 x3 x4 x6
   clear a2P a4P a5P b4P
   have y0:=(Uh HP2).c0
   have y1:=(Uh HP2).c1
   have y2:=(Uh HP2).c2
   have y3:=(Uh HP2).c3
   have y4:=(Uh HP2).c4
   have y5:=(Uh HP2).c5
   have y6:=(Uh HP2).c6
   have z0:=(Uh HO2).c0
   have g0:=(Uh HO2).f0
   have z1:=(Uh HO2).c1
   have g1:=(Uh HO2).f1
   have z2:=(Uh HO2).c2
   have g2:=(Uh HO2).f2
   have z3:=(Uh HO2).c3
   have g3:=(Uh HO2).f3
   have z4:=(Uh HO2).c4
   have g4:=(Uh HO2).f4
   have z5:=(Uh HO2).c5
   have g5:=(Uh HO2).f5
   have z6:=(Uh HO2).c6
   have g6:=(Uh HO2).f6
   go_wp2_with fail
   have k0:=(Uh HF2).c0
   have k1:=(Uh HF2).c1
   have k2:=(Uh HF2).c2
   have k3:=(Uh HF2).c3
   have k4:=(Uh HF2).c4
   have k5:=(Uh HF2).c5
   have k6:=(Uh HF2).c6
   have hB:=Uh HB3
   generalize World.setCell _ ⟨w.heap.size,6,none⟩ (.string ⟨#[]⟩) = wf at k0 k1 k2 k3 k4 k5 k6 hB ⊢
   refine bodyPost_ret (by simp [results,Tryz.results31,go_sem,k0,k1,k2,k3,k4,k5,k6]; try rfl) rfl ?_
   exact ⟨rfl,hB⟩
set_option maxRecDepth 100000 in
set_option maxHeartbeats 16000000 in
theorem takeApart_l (s D:ByteArray) (w:World) (hs:s.size ≤ 65536) (hT:TabBh w) (hf:∀ j,j ≤ s.size → stS s (j + 1) ≠ 0) (SL PT LT:Nat) (hSL:lastS s 4 (s.size + 1) = SL) (hPT:lastS s 6 (s.size + 1) = PT) (hLT:lastS s 8 (s.size + 1) = LT) (h0:SL = 0) (h1:PT = 0) (h2:0 < LT) (h3:LT < s.size)
  (hD:∀ W,Calls Tryz.prog 65 #[.string (s.extract 0 LT),.string ⟨#[45]⟩] W fun e w' => e = .returned (.string D) ∧ w' = W) :
  Calls Tryz.prog 31 #[.string s] w fun e w' => e = .returned (.tuple #[.agg #[.bool (hasS s 2 (s.size + 1)),.string D,.int .i64 (SL:Nat),.string ⟨#[]⟩,.string ⟨#[]⟩,.int .i64 (LT:Nat),.string (s.extract (LT + 1) s.size)],.int .i64 0,.bool true]) ∧ Below w.heap.size w w':=by
 obtain ⟨wo,hwo⟩:∃ x,w.alloc (.cells #[.bool false,.string ⟨#[]⟩,.int .i64 0,.string ⟨#[]⟩,.string ⟨#[]⟩,.int .i64 0,.string ⟨#[]⟩] 64) = x:=⟨_,rfl⟩
 obtain ⟨wp,hwp⟩:∃ x,wo.alloc (.cells #[.bool false,.string ⟨#[]⟩,.int .i64 0,.string ⟨#[]⟩,.string ⟨#[]⟩,.int .i64 0,.string ⟨#[]⟩] 64) = x:=⟨_,rfl⟩
 have bo:Below w.heap.size w wo:=by rw [← hwo]; exact bAl
 have bp:Below wo.heap.size wo wp:=by rw [← hwp]; exact bAl
 have so:=Sv.made w (.bool false) (.string ⟨#[]⟩) (.int .i64 0) (.string ⟨#[]⟩) (.string ⟨#[]⟩) (.int .i64 0) (.string ⟨#[]⟩) 64
 rw [hwo] at so
 have sp:=Sv.made wo (.bool false) (.string ⟨#[]⟩) (.int .i64 0) (.string ⟨#[]⟩) (.string ⟨#[]⟩) (.int .i64 0) (.string ⟨#[]⟩) 64
 rw [hwp] at sp
 have hRo:=so.lt
 have HI0:=Hj (show TkI w wp s w.heap.size wo.heap.size 0 from ⟨sp,so.keep bp,bo.trans (bp.mono bo.size),bo.size,by omega⟩)
 have HT:=Hj hT
 have HF:=Hj hf
 have HSL:=Hj hSL
 have HPT:=Hj hPT
 have HLT:=Hj hLT
 have HD:=Hj hD
 obtain ⟨NG,hNG⟩:∃ b,hasS s 2 (s.size + 1) = b:=⟨_,rfl⟩
 rw [hNG]
 have HNG:=Hj hNG
 clear so sp bo bp hT hf hSL hPT hLT hD hNG
 go_enter Tryz.func31,Tryz.ntmps31
 go_wp2_with fail
 go_loopw [5,8,15] (fun pv sv cv wr => ∃ i:Nat,i ≤ s.size + 1 ∧ pv = .int .i64 (lastS s 6 i:Nat) ∧ sv = .int .u8 (stS s i:Nat) ∧ cv = .int .i64 (i:Nat) ∧ Hid (TkI w wr s w.heap.size wo.heap.size i)) (fun _ _ cv _ => (s.size + 1) - (intOf cv).toNat)
 case atStart => exact ⟨0,by omega,rfl,rfl,rfl,Uh HI0⟩
 case round =>
  clear HI0
  obtain ⟨i,hi,rfl,rfl,rfl,HI⟩:=hrel
  obtain ⟨pv,hpv⟩:∃ z,lastS s 6 i = z:=⟨_,rfl⟩
  rw [hpv]
  have HPV:=Hj hpv
  clear hpv
  by_cases hlt:i < s.size + 1
  ·have hlt':(i:Int) < (s.size:Int) + 1:=by omega
   have hst:=stS_lt s i
   have hkd:=kdA_lt s i
   have hnx:stS s (i + 1) = nxS (stS s i) (kdA s i):=rfl
   have hTb:=(Uh HT).below (Uh HI).bel (stS s i) (kdA s i) hst hkd
   have hslt:=stS_lt s (i + 1)
   have HK:=Hj (fun W => kindAt_any s i W hs (by omega))
   rw [← hnx] at hTb
   obtain ⟨st,hsv⟩:∃ z,stS s i = z:=⟨_,rfl⟩
   obtain ⟨kd,hkv⟩:∃ z,kdA s i = z:=⟨_,rfl⟩
   obtain ⟨nx,hnv⟩:∃ z,stS s (i + 1) = z:=⟨_,rfl⟩
   rw [hsv,hkv,hnv] at hTb
   rw [hkv] at HK
   rw [hsv] at hst ⊢
   rw [hkv] at hkd
   rw [hnv] at hslt
   have HNV:=Hj hnv
   clear hnx hsv hkv hnv
   go_wp2_with fail
   have FT:=fun z:Ext wr => z.cell hTb
   have hNE:=Ext.ne wr
   have hst':(st:Int) < 12:=by omega
   have hkd':(kd:Int) < 8:=by omega
   refine wp_region_ext (by kernel_rfl) (by kernel_rfl) ?_
   repeat (go_big_quiet_step (first
    | (go_at_call 64; rename_i z; exact Ext.call (Uh HK z.w) (fun e w' h => ⟨h.1,by rw [h.2]; exact Below.refl _ _⟩))))
   refine wpQuiet_nil ?_
   rintro _ ⟨xE,rfl⟩
   clear FT hNE hTb HK
   have HI2:=Hj ((Uh HI).keep xE.bel)
   have q0:=(Uh HI2).p.f0
   have q2:=(Uh HI2).p.f2
   have q5:=(Uh HI2).p.f5
   have e0:=(Uh HI2).p.c0
   have e2:=(Uh HI2).p.c2
   have e5:=(Uh HI2).p.c5
   have n0:nx ≠ 0:=by rw [← Uh HNV]; exact Uh HF i (by omega)
   have t0:((nx:Int) == 0) = false:=by simp; omega
   by_cases hc:nx = 2
   ·have t2:((nx:Int) == 2) = true:=by simp [hc]
    have HN:=Hj ((Uh HI2).neg ((Uh HNV).trans hc))
    clear HI
    go_wp2_with fail
    exact ⟨⟨i + 1,by omega,by rw [lastS_step (by rw [Uh HNV]; omega),Uh HPV],by rw [Uh HNV],by (first | rfl | go_num),Uh HN⟩,by simp [intOf]; omega⟩
   ·have t2:((nx:Int) == 2) = false:=by simp; omega
    have hn2:=hc
    clear hc
    by_cases hc:nx = 4
    ·have t4:((nx:Int) == 4) = true:=by simp [hc]
     have HN:=Hj ((Uh HI2).slash ((Uh HNV).trans hc))
     clear HI
     go_wp2_with fail
     exact ⟨⟨i + 1,by omega,by rw [lastS_step (by rw [Uh HNV]; omega),Uh HPV],by rw [Uh HNV],by (first | rfl | go_num),Uh HN⟩,by simp [intOf]; omega⟩
    ·have t4:((nx:Int) == 4) = false:=by simp; omega
     have hn4:=hc
     clear hc
     by_cases hc:nx = 6
     ·have t6:((nx:Int) == 6) = true:=by simp [hc]
      have HN:=Hj ((Uh HI2).same (by rw [Uh HNV]; omega) (by rw [Uh HNV]; omega) (by rw [Uh HNV]; omega))
      clear HI
      go_wp2_with fail
      exact ⟨⟨i + 1,by omega,by rw [lastS_now ((Uh HNV).trans hc)],by rw [Uh HNV],by (first | rfl | go_num),Uh HN⟩,by simp [intOf]; omega⟩
     ·have t6:((nx:Int) == 6) = false:=by simp; omega
      have hn6:=hc
      clear hc
      by_cases hc:nx = 8
      ·have t8:((nx:Int) == 8) = true:=by simp [hc]
       have HN:=Hj ((Uh HI2).letter ((Uh HNV).trans hc))
       clear HI
       go_wp2_with fail
       exact ⟨⟨i + 1,by omega,by rw [lastS_step (by rw [Uh HNV]; omega),Uh HPV],by rw [Uh HNV],by (first | rfl | go_num),Uh HN⟩,by simp [intOf]; omega⟩
      ·have t8:((nx:Int) == 8) = false:=by simp; omega
       have hn8:=hc
       clear hc
       have HN:=Hj ((Uh HI2).same (by rw [Uh HNV]; omega) (by rw [Uh HNV]; omega) (by rw [Uh HNV]; omega))
       clear HI
       go_wp2_with fail
       exact ⟨⟨i + 1,by omega,by rw [lastS_step (by rw [Uh HNV]; omega),Uh HPV],by rw [Uh HNV],by (first | rfl | go_num),Uh HN⟩,by simp [intOf]; omega⟩
  ·have hie:i = s.size + 1:=by omega
   have hlt':¬ (i:Int) < (s.size:Int) + 1:=by omega
   have hpv:=Uh HPV
   rw [hie,Uh HPT] at hpv
   subst hpv
   have hTk:=Uh HI
   rw [hie] at hTk
   have hp:=hTk.p
   rw [Uh HLT,Uh HSL,Uh HNG] at hp
   have u0:=hp.c0
   have u1:=hp.c1
   have u2:=hp.c2
   have u4:=hp.c4
   have u5:=hp.c5
   have u6:=hp.c6
   have x1:=hp.f1
   have x3:=hp.f3
   have x4:=hp.f4
   have x6:=hp.f6
   have HP:=Hj hp
   have HO:=Hj (And.intro hTk.o (And.intro hTk.bel (And.intro hTk.hp hTk.ne)))
   clear hTk hp hie
   have tz:¬ (0:Int) < (SL:Int):=by omega
   have HD2:=Hj (Uh HD)
   have HH:=Hj h0
   clear h0
   have tp:¬ (0:Int) < (PT:Int):=by omega
   have tl:(0:Int) < (LT:Int):=by omega
   clear h1
   have HPL:=Hj ((Uh HP).put6 (.string (s.extract (LT + 1) s.size)))
   have HOL:=Hj (And.intro ((Uh HO).1.far (j:=6) (Uh HO).2.2.2 (.string (s.extract (LT + 1) s.size))) (And.intro (below_put (i:=6) (v:=.string (s.extract (LT + 1) s.size)) (Uh HO).2.1 (Uh HO).2.2.1) (Uh HO).2.2))
   have a1L:=(Uh HPL).c1
   have a2L:=(Uh HPL).c2
   have a4L:=(Uh HPL).c4
   have a5L:=(Uh HPL).c5
   have b1L:=(Uh HPL).f1
   have b4L:=(Uh HPL).f4
   have hl1:(LT:Int) + 1 ≤ (s.size:Int):=by omega
   have hl2:(LT:Int) ≤ (s.size:Int):=by omega
   go_wp2_with fail
   refine (Uh HD2 _).mono ?_
   rintro _ _ ⟨rfl,hw⟩
   obtain rfl:=hw.symm
   clear hw
   have HP2:=Hj ((Uh HPL).put1 (.string D))
   have HO2:=Hj ((Uh HOL).1.far (j:=1) (Uh HOL).2.2.2 (.string D))
   have HB2:=Hj (below_put (i:=1) (v:=.string D) (Uh HOL).2.1 (Uh HOL).2.2.1)
   have HF2:=Hj (((((((Uh HO2).put0 (.bool NG)).put1 (.string D)).put2 (.int .i64 (SL:Nat))).put3 (.string ⟨#[]⟩)).put4 (.string ⟨#[]⟩)).put5 (.int .i64 (LT:Nat))).put6 (.string (s.extract (LT + 1) s.size))
   have HB3:=Hj (below_put (i:=6) (v:=.string (s.extract (LT + 1) s.size)) (below_put (i:=5) (v:=.int .i64 (LT:Nat)) (below_put (i:=4) (v:=.string ⟨#[]⟩) (below_put (i:=3) (v:=.string ⟨#[]⟩) (below_put (i:=2) (v:=.int .i64 (SL:Nat)) (below_put (i:=1) (v:=.string D) (below_put (i:=0) (v:=.bool NG) (Uh HB2) (Nat.le_refl _)) (Nat.le_refl _)) (Nat.le_refl _)) (Nat.le_refl _)) (Nat.le_refl _)) (Nat.le_refl _)) (Nat.le_refl _))
   have hne:=(Uh HOL).2.2.2
   have hne2:=hne.symm
   clear u0 u1 u2 u4 u5 u6 x1 x3 x4 x6
   clear a2L a4L a5L b4L
   have y0:=(Uh HP2).c0
   have y1:=(Uh HP2).c1
   have y2:=(Uh HP2).c2
   have y3:=(Uh HP2).c3
   have y4:=(Uh HP2).c4
   have y5:=(Uh HP2).c5
   have y6:=(Uh HP2).c6
   have z0:=(Uh HO2).c0
   have g0:=(Uh HO2).f0
   have z1:=(Uh HO2).c1
   have g1:=(Uh HO2).f1
   have z2:=(Uh HO2).c2
   have g2:=(Uh HO2).f2
   have z3:=(Uh HO2).c3
   have g3:=(Uh HO2).f3
   have z4:=(Uh HO2).c4
   have g4:=(Uh HO2).f4
   have z5:=(Uh HO2).c5
   have g5:=(Uh HO2).f5
   have z6:=(Uh HO2).c6
   have g6:=(Uh HO2).f6
   go_wp2_with fail
   have k0:=(Uh HF2).c0
   have k1:=(Uh HF2).c1
   have k2:=(Uh HF2).c2
   have k3:=(Uh HF2).c3
   have k4:=(Uh HF2).c4
   have k5:=(Uh HF2).c5
   have k6:=(Uh HF2).c6
   have hB:=Uh HB3
   generalize World.setCell _ ⟨w.heap.size,6,none⟩ (.string (s.extract (LT + 1) s.size)) = wf at k0 k1 k2 k3 k4 k5 k6 hB ⊢
   refine bodyPost_ret (by simp [results,Tryz.results31,go_sem,k0,k1,k2,k3,k4,k5,k6]; try rfl) rfl ?_
   exact ⟨rfl,hB⟩
set_option maxRecDepth 100000 in
set_option maxHeartbeats 16000000 in
theorem takeApart_b (s D:ByteArray) (w:World) (hs:s.size ≤ 65536) (hT:TabBh w) (hf:∀ j,j ≤ s.size → stS s (j + 1) ≠ 0) (SL PT LT:Nat) (hSL:lastS s 4 (s.size + 1) = SL) (hPT:lastS s 6 (s.size + 1) = PT) (hLT:lastS s 8 (s.size + 1) = LT) (h0:SL = 0) (h1:0 < PT) (h2:0 < LT) (h3:PT < LT) (h4:LT < s.size)
  (hD:∀ W,Calls Tryz.prog 65 #[.string (s.extract 0 PT),.string ⟨#[45]⟩] W fun e w' => e = .returned (.string D) ∧ w' = W) :
  Calls Tryz.prog 31 #[.string s] w fun e w' => e = .returned (.tuple #[.agg #[.bool (hasS s 2 (s.size + 1)),.string D,.int .i64 (SL:Nat),.string ⟨#[]⟩,.string (s.extract (PT + 1) LT),.int .i64 (LT:Nat),.string (s.extract (LT + 1) s.size)],.int .i64 0,.bool true]) ∧ Below w.heap.size w w':=by
 obtain ⟨wo,hwo⟩:∃ x,w.alloc (.cells #[.bool false,.string ⟨#[]⟩,.int .i64 0,.string ⟨#[]⟩,.string ⟨#[]⟩,.int .i64 0,.string ⟨#[]⟩] 64) = x:=⟨_,rfl⟩
 obtain ⟨wp,hwp⟩:∃ x,wo.alloc (.cells #[.bool false,.string ⟨#[]⟩,.int .i64 0,.string ⟨#[]⟩,.string ⟨#[]⟩,.int .i64 0,.string ⟨#[]⟩] 64) = x:=⟨_,rfl⟩
 have bo:Below w.heap.size w wo:=by rw [← hwo]; exact bAl
 have bp:Below wo.heap.size wo wp:=by rw [← hwp]; exact bAl
 have so:=Sv.made w (.bool false) (.string ⟨#[]⟩) (.int .i64 0) (.string ⟨#[]⟩) (.string ⟨#[]⟩) (.int .i64 0) (.string ⟨#[]⟩) 64
 rw [hwo] at so
 have sp:=Sv.made wo (.bool false) (.string ⟨#[]⟩) (.int .i64 0) (.string ⟨#[]⟩) (.string ⟨#[]⟩) (.int .i64 0) (.string ⟨#[]⟩) 64
 rw [hwp] at sp
 have hRo:=so.lt
 have HI0:=Hj (show TkI w wp s w.heap.size wo.heap.size 0 from ⟨sp,so.keep bp,bo.trans (bp.mono bo.size),bo.size,by omega⟩)
 have HT:=Hj hT
 have HF:=Hj hf
 have HSL:=Hj hSL
 have HPT:=Hj hPT
 have HLT:=Hj hLT
 have HD:=Hj hD
 obtain ⟨NG,hNG⟩:∃ b,hasS s 2 (s.size + 1) = b:=⟨_,rfl⟩
 rw [hNG]
 have HNG:=Hj hNG
 clear so sp bo bp hT hf hSL hPT hLT hD hNG
 go_enter Tryz.func31,Tryz.ntmps31
 go_wp2_with fail
 go_loopw [5,8,15] (fun pv sv cv wr => ∃ i:Nat,i ≤ s.size + 1 ∧ pv = .int .i64 (lastS s 6 i:Nat) ∧ sv = .int .u8 (stS s i:Nat) ∧ cv = .int .i64 (i:Nat) ∧ Hid (TkI w wr s w.heap.size wo.heap.size i)) (fun _ _ cv _ => (s.size + 1) - (intOf cv).toNat)
 case atStart => exact ⟨0,by omega,rfl,rfl,rfl,Uh HI0⟩
 case round =>
  clear HI0
  obtain ⟨i,hi,rfl,rfl,rfl,HI⟩:=hrel
  obtain ⟨pv,hpv⟩:∃ z,lastS s 6 i = z:=⟨_,rfl⟩
  rw [hpv]
  have HPV:=Hj hpv
  clear hpv
  by_cases hlt:i < s.size + 1
  ·have hlt':(i:Int) < (s.size:Int) + 1:=by omega
   have hst:=stS_lt s i
   have hkd:=kdA_lt s i
   have hnx:stS s (i + 1) = nxS (stS s i) (kdA s i):=rfl
   have hTb:=(Uh HT).below (Uh HI).bel (stS s i) (kdA s i) hst hkd
   have hslt:=stS_lt s (i + 1)
   have HK:=Hj (fun W => kindAt_any s i W hs (by omega))
   rw [← hnx] at hTb
   obtain ⟨st,hsv⟩:∃ z,stS s i = z:=⟨_,rfl⟩
   obtain ⟨kd,hkv⟩:∃ z,kdA s i = z:=⟨_,rfl⟩
   obtain ⟨nx,hnv⟩:∃ z,stS s (i + 1) = z:=⟨_,rfl⟩
   rw [hsv,hkv,hnv] at hTb
   rw [hkv] at HK
   rw [hsv] at hst ⊢
   rw [hkv] at hkd
   rw [hnv] at hslt
   have HNV:=Hj hnv
   clear hnx hsv hkv hnv
   go_wp2_with fail
   have FT:=fun z:Ext wr => z.cell hTb
   have hNE:=Ext.ne wr
   have hst':(st:Int) < 12:=by omega
   have hkd':(kd:Int) < 8:=by omega
   refine wp_region_ext (by kernel_rfl) (by kernel_rfl) ?_
   repeat (go_big_quiet_step (first
    | (go_at_call 64; rename_i z; exact Ext.call (Uh HK z.w) (fun e w' h => ⟨h.1,by rw [h.2]; exact Below.refl _ _⟩))))
   refine wpQuiet_nil ?_
   rintro _ ⟨xE,rfl⟩
   clear FT hNE hTb HK
   have HI2:=Hj ((Uh HI).keep xE.bel)
   have q0:=(Uh HI2).p.f0
   have q2:=(Uh HI2).p.f2
   have q5:=(Uh HI2).p.f5
   have e0:=(Uh HI2).p.c0
   have e2:=(Uh HI2).p.c2
   have e5:=(Uh HI2).p.c5
   have n0:nx ≠ 0:=by rw [← Uh HNV]; exact Uh HF i (by omega)
   have t0:((nx:Int) == 0) = false:=by simp; omega
   by_cases hc:nx = 2
   ·have t2:((nx:Int) == 2) = true:=by simp [hc]
    have HN:=Hj ((Uh HI2).neg ((Uh HNV).trans hc))
    clear HI
    go_wp2_with fail
    exact ⟨⟨i + 1,by omega,by rw [lastS_step (by rw [Uh HNV]; omega),Uh HPV],by rw [Uh HNV],by (first | rfl | go_num),Uh HN⟩,by simp [intOf]; omega⟩
   ·have t2:((nx:Int) == 2) = false:=by simp; omega
    have hn2:=hc
    clear hc
    by_cases hc:nx = 4
    ·have t4:((nx:Int) == 4) = true:=by simp [hc]
     have HN:=Hj ((Uh HI2).slash ((Uh HNV).trans hc))
     clear HI
     go_wp2_with fail
     exact ⟨⟨i + 1,by omega,by rw [lastS_step (by rw [Uh HNV]; omega),Uh HPV],by rw [Uh HNV],by (first | rfl | go_num),Uh HN⟩,by simp [intOf]; omega⟩
    ·have t4:((nx:Int) == 4) = false:=by simp; omega
     have hn4:=hc
     clear hc
     by_cases hc:nx = 6
     ·have t6:((nx:Int) == 6) = true:=by simp [hc]
      have HN:=Hj ((Uh HI2).same (by rw [Uh HNV]; omega) (by rw [Uh HNV]; omega) (by rw [Uh HNV]; omega))
      clear HI
      go_wp2_with fail
      exact ⟨⟨i + 1,by omega,by rw [lastS_now ((Uh HNV).trans hc)],by rw [Uh HNV],by (first | rfl | go_num),Uh HN⟩,by simp [intOf]; omega⟩
     ·have t6:((nx:Int) == 6) = false:=by simp; omega
      have hn6:=hc
      clear hc
      by_cases hc:nx = 8
      ·have t8:((nx:Int) == 8) = true:=by simp [hc]
       have HN:=Hj ((Uh HI2).letter ((Uh HNV).trans hc))
       clear HI
       go_wp2_with fail
       exact ⟨⟨i + 1,by omega,by rw [lastS_step (by rw [Uh HNV]; omega),Uh HPV],by rw [Uh HNV],by (first | rfl | go_num),Uh HN⟩,by simp [intOf]; omega⟩
      ·have t8:((nx:Int) == 8) = false:=by simp; omega
       have hn8:=hc
       clear hc
       have HN:=Hj ((Uh HI2).same (by rw [Uh HNV]; omega) (by rw [Uh HNV]; omega) (by rw [Uh HNV]; omega))
       clear HI
       go_wp2_with fail
       exact ⟨⟨i + 1,by omega,by rw [lastS_step (by rw [Uh HNV]; omega),Uh HPV],by rw [Uh HNV],by (first | rfl | go_num),Uh HN⟩,by simp [intOf]; omega⟩
  ·have hie:i = s.size + 1:=by omega
   have hlt':¬ (i:Int) < (s.size:Int) + 1:=by omega
   have hpv:=Uh HPV
   rw [hie,Uh HPT] at hpv
   subst hpv
   have hTk:=Uh HI
   rw [hie] at hTk
   have hp:=hTk.p
   rw [Uh HLT,Uh HSL,Uh HNG] at hp
   have u0:=hp.c0
   have u1:=hp.c1
   have u2:=hp.c2
   have u4:=hp.c4
   have u5:=hp.c5
   have u6:=hp.c6
   have x1:=hp.f1
   have x3:=hp.f3
   have x4:=hp.f4
   have x6:=hp.f6
   have HP:=Hj hp
   have HO:=Hj (And.intro hTk.o (And.intro hTk.bel (And.intro hTk.hp hTk.ne)))
   clear hTk hp hie
   have tz:¬ (0:Int) < (SL:Int):=by omega
   have HD2:=Hj (Uh HD)
   have HH:=Hj h0
   clear h0
   have tp:(0:Int) < (PT:Int):=by omega
   have tl:(0:Int) < (LT:Int):=by omega
   have HPL:=Hj ((Uh HP).put6 (.string (s.extract (LT + 1) s.size)))
   have HOL:=Hj (And.intro ((Uh HO).1.far (j:=6) (Uh HO).2.2.2 (.string (s.extract (LT + 1) s.size))) (And.intro (below_put (i:=6) (v:=.string (s.extract (LT + 1) s.size)) (Uh HO).2.1 (Uh HO).2.2.1) (Uh HO).2.2))
   have a1L:=(Uh HPL).c1
   have a2L:=(Uh HPL).c2
   have a4L:=(Uh HPL).c4
   have a5L:=(Uh HPL).c5
   have b1L:=(Uh HPL).f1
   have b4L:=(Uh HPL).f4
   have HPP:=Hj ((Uh HPL).put4 (.string (s.extract (PT + 1) LT)))
   have HOP:=Hj (And.intro ((Uh HOL).1.far (j:=4) (Uh HOL).2.2.2 (.string (s.extract (PT + 1) LT))) (And.intro (below_put (i:=4) (v:=.string (s.extract (PT + 1) LT)) (Uh HOL).2.1 (Uh HOL).2.2.1) (Uh HOL).2.2))
   have a1P:=(Uh HPP).c1
   have a2P:=(Uh HPP).c2
   have a4P:=(Uh HPP).c4
   have a5P:=(Uh HPP).c5
   have b1P:=(Uh HPP).f1
   have b4P:=(Uh HPP).f4
   have hl1:(LT:Int) + 1 ≤ (s.size:Int):=by omega
   have hl2:(LT:Int) ≤ (s.size:Int):=by omega
   have hp1:(PT:Int) + 1 ≤ (LT:Int):=by omega
   have hp2:(PT:Int) ≤ (s.size:Int):=by omega
   go_wp2_with fail
   refine (Uh HD2 _).mono ?_
   rintro _ _ ⟨rfl,hw⟩
   obtain rfl:=hw.symm
   clear hw
   have HP2:=Hj ((Uh HPP).put1 (.string D))
   have HO2:=Hj ((Uh HOP).1.far (j:=1) (Uh HOP).2.2.2 (.string D))
   have HB2:=Hj (below_put (i:=1) (v:=.string D) (Uh HOP).2.1 (Uh HOP).2.2.1)
   have HF2:=Hj (((((((Uh HO2).put0 (.bool NG)).put1 (.string D)).put2 (.int .i64 (SL:Nat))).put3 (.string ⟨#[]⟩)).put4 (.string (s.extract (PT + 1) LT))).put5 (.int .i64 (LT:Nat))).put6 (.string (s.extract (LT + 1) s.size))
   have HB3:=Hj (below_put (i:=6) (v:=.string (s.extract (LT + 1) s.size)) (below_put (i:=5) (v:=.int .i64 (LT:Nat)) (below_put (i:=4) (v:=.string (s.extract (PT + 1) LT)) (below_put (i:=3) (v:=.string ⟨#[]⟩) (below_put (i:=2) (v:=.int .i64 (SL:Nat)) (below_put (i:=1) (v:=.string D) (below_put (i:=0) (v:=.bool NG) (Uh HB2) (Nat.le_refl _)) (Nat.le_refl _)) (Nat.le_refl _)) (Nat.le_refl _)) (Nat.le_refl _)) (Nat.le_refl _)) (Nat.le_refl _))
   have hne:=(Uh HOP).2.2.2
   have hne2:=hne.symm
   clear u0 u1 u2 u4 u5 u6 x1 x3 x4 x6
   clear a1L a2L a4L a5L b1L b4L
   clear a2P a4P a5P b4P
   have y0:=(Uh HP2).c0
   have y1:=(Uh HP2).c1
   have y2:=(Uh HP2).c2
   have y3:=(Uh HP2).c3
   have y4:=(Uh HP2).c4
   have y5:=(Uh HP2).c5
   have y6:=(Uh HP2).c6
   have z0:=(Uh HO2).c0
   have g0:=(Uh HO2).f0
   have z1:=(Uh HO2).c1
   have g1:=(Uh HO2).f1
   have z2:=(Uh HO2).c2
   have g2:=(Uh HO2).f2
   have z3:=(Uh HO2).c3
   have g3:=(Uh HO2).f3
   have z4:=(Uh HO2).c4
   have g4:=(Uh HO2).f4
   have z5:=(Uh HO2).c5
   have g5:=(Uh HO2).f5
   have z6:=(Uh HO2).c6
   have g6:=(Uh HO2).f6
   go_wp2_with fail
   have k0:=(Uh HF2).c0
   have k1:=(Uh HF2).c1
   have k2:=(Uh HF2).c2
   have k3:=(Uh HF2).c3
   have k4:=(Uh HF2).c4
   have k5:=(Uh HF2).c5
   have k6:=(Uh HF2).c6
   have hB:=Uh HB3
   generalize World.setCell _ ⟨w.heap.size,6,none⟩ (.string (s.extract (LT + 1) s.size)) = wf at k0 k1 k2 k3 k4 k5 k6 hB ⊢
   refine bodyPost_ret (by simp [results,Tryz.results31,go_sem,k0,k1,k2,k3,k4,k5,k6]; try rfl) rfl ?_
   exact ⟨rfl,hB⟩
end Go.Proofs.YtmnlhnmlgncedaaGreatDoor
