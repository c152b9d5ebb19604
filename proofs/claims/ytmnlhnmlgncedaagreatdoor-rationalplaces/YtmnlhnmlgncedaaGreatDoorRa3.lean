/- Rp8 -/
import Derived.Test.YtmnlhnmlgncedaaGreatDoorRp3
import Derived.Test.YtmnlhnmlgncedaaGreatDoorRp5
import Derived.Test.YtmnlhnmlgncedaaGreatDoorUpd
import Derived.Lib.LazyBuf
namespace Go.Proofs.YtmnlhnmlgncedaaGreatDoor
open Go.RowKit Go.Deep
set_option linter.unusedVariables false
theorem TkI.letter {w wr:World} {s:ByteArray} {Ro Rp i:Nat} (h:TkI w wr s Ro Rp i) (h8:stS s (i + 1) = 8):TkI w (wr.setCell ⟨Rp,5,none⟩ (.int .i64 (i:Nat))) s Ro Rp (i + 1):=by
 have a:hasS s 2 (i + 1) = hasS s 2 i:=by conv => lhs; unfold hasS; rw [if_neg (by omega)]
 have b:lastS s 4 (i + 1) = lastS s 4 i:=by conv => lhs; unfold lastS; rw [if_neg (by omega)]
 have c:lastS s 8 (i + 1) = i:=by unfold lastS; rw [if_pos h8]
 exact ⟨by rw [a,b,c]; exact h.p.put5 _,h.o.far h.ne _,below_put h.bel h.hp,h.hp,h.ne⟩
theorem lastS_step {s:ByteArray} {v i:Nat} (h:stS s (i + 1) ≠ v):lastS s v (i + 1) = lastS s v i:=by conv => lhs; unfold lastS; rw [if_neg h]
theorem lastS_now {s:ByteArray} {v i:Nat} (h:stS s (i + 1) = v):lastS s v (i + 1) = i:=by unfold lastS; rw [if_pos h]

set_option maxRecDepth 100000 in
set_option maxHeartbeats 16000000 in
theorem takeApart_bad (s D:ByteArray) (w:World) (hs:s.size ≤ 65536) (hT:TabBh w) (b:Nat) (hb:b ≤ s.size) (hz:stS s (b + 1) = 0) (hf:∀ j,j < b → stS s (j + 1) ≠ 0) :
  Calls Tryz.prog 31 #[.string s] w fun e w' => e = .returned (.tuple #[.agg #[.bool false,.string ⟨#[]⟩,.int .i64 0,.string ⟨#[]⟩,.string ⟨#[]⟩,.int .i64 0,.string ⟨#[]⟩],.int .i64 (b:Nat),.bool false]) ∧ Below w.heap.size w w':=by
 obtain ⟨wo,hwo⟩:∃ x,w.alloc (.cells #[.bool false,.string ⟨#[]⟩,.int .i64 0,.string ⟨#[]⟩,.string ⟨#[]⟩,.int .i64 0,.string ⟨#[]⟩] 64) = x:=⟨_,rfl⟩
 obtain ⟨wp,hwp⟩:∃ x,wo.alloc (.cells #[.bool false,.string ⟨#[]⟩,.int .i64 0,.string ⟨#[]⟩,.string ⟨#[]⟩,.int .i64 0,.string ⟨#[]⟩] 64) = x:=⟨_,rfl⟩
 have bo:Below w.heap.size w wo:=by rw [← hwo]; exact bAl
 have bp:Below wo.heap.size wo wp:=by rw [← hwp]; exact bAl
 have so:=Sv.made w (.bool false) (.string ⟨#[]⟩) (.int .i64 0) (.string ⟨#[]⟩) (.string ⟨#[]⟩) (.int .i64 0) (.string ⟨#[]⟩) 64
 rw [hwo] at so
 have sp:=Sv.made wo (.bool false) (.string ⟨#[]⟩) (.int .i64 0) (.string ⟨#[]⟩) (.string ⟨#[]⟩) (.int .i64 0) (.string ⟨#[]⟩) 64
 rw [hwp] at sp
 have hRo:=so.lt
 have HI0:=Hj (show TkI w wp s w.heap.size wo.heap.size 0 from ⟨sp,so.keep bp,bo.trans (bp.mono bo.size),bo.size,by omega⟩)
 have HT:=Hj hT
 have HF:=Hj hf
 have HZ:=Hj hz
 clear so sp bo bp hT hf hz
 go_enter Tryz.func31,Tryz.ntmps31
 go_wp2_with fail
 go_loopw [5,8,15] (fun pv sv cv wr => ∃ i:Nat,i ≤ b ∧ pv = .int .i64 (lastS s 6 i:Nat) ∧ sv = .int .u8 (stS s i:Nat) ∧ cv = .int .i64 (i:Nat) ∧ Hid (TkI w wr s w.heap.size wo.heap.size i)) (fun _ _ cv _ => (s.size + 1) - (intOf cv).toNat)
 case atStart => exact ⟨0,by omega,rfl,rfl,rfl,Uh HI0⟩
 case round =>
  clear HI0
  obtain ⟨i,hi,rfl,rfl,rfl,HI⟩:=hrel
  obtain ⟨pv,hpv⟩:∃ z,lastS s 6 i = z:=⟨_,rfl⟩
  rw [hpv]
  have HPV:=Hj hpv
  clear hpv
  by_cases hlt:i < s.size + 1
  ·have hlt':(i:Int) < (s.size:Int) + 1:=by omega
   have hst:=stS_lt s i
   have hkd:=kdA_lt s i
   have hnx:stS s (i + 1) = nxS (stS s i) (kdA s i):=rfl
   have hTb:=(Uh HT).below (Uh HI).bel (stS s i) (kdA s i) hst hkd
   have hslt:=stS_lt s (i + 1)
   have HK:=Hj (fun W => kindAt_any s i W hs (by omega))
   rw [← hnx] at hTb
   obtain ⟨st,hsv⟩:∃ z,stS s i = z:=⟨_,rfl⟩
   obtain ⟨kd,hkv⟩:∃ z,kdA s i = z:=⟨_,rfl⟩
   obtain ⟨nx,hnv⟩:∃ z,stS s (i + 1) = z:=⟨_,rfl⟩
   rw [hsv,hkv,hnv] at hTb
   rw [hkv] at HK
   rw [hsv] at hst ⊢
   rw [hkv] at hkd
   rw [hnv] at hslt
   have HNV:=Hj hnv
   clear hnx hsv hkv hnv
   go_wp2_with fail
   have FT:=fun z:Ext wr => z.cell hTb
   have hNE:=Ext.ne wr
   have hst':(st:Int) < 12:=by omega
   have hkd':(kd:Int) < 8:=by omega
   refine wp_region_ext (by kernel_rfl) (by kernel_rfl) ?_
   repeat (go_big_quiet_step (first
    | (go_at_call 64; rename_i z; exact Ext.call (Uh HK z.w) (fun e w' h => ⟨h.1,by rw [h.2]; exact Below.refl _ _⟩))))
   refine wpQuiet_nil ?_
   rintro _ ⟨xE,rfl⟩
   clear FT hNE hTb HK
   have HI2:=Hj ((Uh HI).keep xE.bel)
   have q0:=(Uh HI2).p.f0
   have q2:=(Uh HI2).p.f2
   have q5:=(Uh HI2).p.f5
   have e0:=(Uh HI2).p.c0
   have e2:=(Uh HI2).p.c2
   have e5:=(Uh HI2).p.c5
   by_cases hib:i = b
   ·obtain rfl:=hib
    have hn0:nx = 0:=(Uh HNV).symm.trans (Uh HZ)
    have t0:((nx:Int) == 0) = true:=by simp [hn0]
    have HO2:=Hj (Uh HI2).o
    have HB2:=Hj (Uh HI2).bel
    have HF2:=Hj (((((((Uh HO2).put0 (.bool false)).put1 (.string ⟨#[]⟩)).put2 (.int .i64 0)).put3 (.string ⟨#[]⟩)).put4 (.string ⟨#[]⟩)).put5 (.int .i64 0)).put6 (.string ⟨#[]⟩)
    have HB3:=Hj (below_put (i:=6) (v:=.string ⟨#[]⟩) (below_put (i:=5) (v:=.int .i64 0) (below_put (i:=4) (v:=.string ⟨#[]⟩) (below_put (i:=3) (v:=.string ⟨#[]⟩) (below_put (i:=2) (v:=.int .i64 0) (below_put (i:=1) (v:=.string ⟨#[]⟩) (below_put (i:=0) (v:=.bool false) (Uh HB2) (Nat.le_refl _)) (Nat.le_refl _)) (Nat.le_refl _)) (Nat.le_refl _)) (Nat.le_refl _)) (Nat.le_refl _)) (Nat.le_refl _))
    have z0:=(Uh HO2).c0
    have g0:=(Uh HO2).f0
    have z1:=(Uh HO2).c1
    have g1:=(Uh HO2).f1
    have z2:=(Uh HO2).c2
    have g2:=(Uh HO2).f2
    have z3:=(Uh HO2).c3
    have g3:=(Uh HO2).f3
    have z4:=(Uh HO2).c4
    have g4:=(Uh HO2).f4
    have z5:=(Uh HO2).c5
    have g5:=(Uh HO2).f5
    have z6:=(Uh HO2).c6
    have g6:=(Uh HO2).f6
    clear hn0 q0 q2 q5 e0 e2 e5
    go_wp2_with fail
    have k0:=(Uh HF2).c0
    have k1:=(Uh HF2).c1
    have k2:=(Uh HF2).c2
    have k3:=(Uh HF2).c3
    have k4:=(Uh HF2).c4
    have k5:=(Uh HF2).c5
    have k6:=(Uh HF2).c6
    have hB:=Uh HB3
    generalize World.setCell _ ⟨w.heap.size,6,none⟩ (.string ⟨#[]⟩) = wf at k0 k1 k2 k3 k4 k5 k6 hB ⊢
    refine bodyPost_ret (by simp [results,Tryz.results31,go_sem,k0,k1,k2,k3,k4,k5,k6]; try rfl) rfl ?_
    exact ⟨rfl,hB⟩
   ·have n0:nx ≠ 0:=by rw [← Uh HNV]; exact Uh HF i (by omega)
    have hib':i < b:=by omega
    have t0:((nx:Int) == 0) = false:=by simp; omega
    by_cases hc:nx = 2
    ·have t2:((nx:Int) == 2) = true:=by simp [hc]
     have HN:=Hj ((Uh HI2).neg ((Uh HNV).trans hc))
     clear HI
     go_wp2_with fail
     exact ⟨⟨i + 1,by omega,by rw [lastS_step (by rw [Uh HNV]; omega),Uh HPV],by rw [Uh HNV],by (first | rfl | go_num),Uh HN⟩,by simp [intOf]; omega⟩
    ·have t2:((nx:Int) == 2) = false:=by simp; omega
     have hn2:=hc
     clear hc
     by_cases hc:nx = 4
     ·have t4:((nx:Int) == 4) = true:=by simp [hc]
      have HN:=Hj ((Uh HI2).slash ((Uh HNV).trans hc))
      clear HI
      go_wp2_with fail
      exact ⟨⟨i + 1,by omega,by rw [lastS_step (by rw [Uh HNV]; omega),Uh HPV],by rw [Uh HNV],by (first | rfl | go_num),Uh HN⟩,by simp [intOf]; omega⟩
     ·have t4:((nx:Int) == 4) = false:=by simp; omega
      have hn4:=hc
      clear hc
      by_cases hc:nx = 6
      ·have t6:((nx:Int) == 6) = true:=by simp [hc]
       have HN:=Hj ((Uh HI2).same (by rw [Uh HNV]; omega) (by rw [Uh HNV]; omega) (by rw [Uh HNV]; omega))
       clear HI
       go_wp2_with fail
       exact ⟨⟨i + 1,by omega,by rw [lastS_now ((Uh HNV).trans hc)],by rw [Uh HNV],by (first | rfl | go_num),Uh HN⟩,by simp [intOf]; omega⟩
      ·have t6:((nx:Int) == 6) = false:=by simp; omega
       have hn6:=hc
       clear hc
       by_cases hc:nx = 8
       ·have t8:((nx:Int) == 8) = true:=by simp [hc]
        have HN:=Hj ((Uh HI2).letter ((Uh HNV).trans hc))
        clear HI
        go_wp2_with fail
        exact ⟨⟨i + 1,by omega,by rw [lastS_step (by rw [Uh HNV]; omega),Uh HPV],by rw [Uh HNV],by (first | rfl | go_num),Uh HN⟩,by simp [intOf]; omega⟩
       ·have t8:((nx:Int) == 8) = false:=by simp; omega
        have hn8:=hc
        clear hc
        have HN:=Hj ((Uh HI2).same (by rw [Uh HNV]; omega) (by rw [Uh HNV]; omega) (by rw [Uh HNV]; omega))
        clear HI
        go_wp2_with fail
        exact ⟨⟨i + 1,by omega,by rw [lastS_step (by rw [Uh HNV]; omega),Uh HPV],by rw [Uh HNV],by (first | rfl | go_num),Uh HN⟩,by simp [intOf]; omega⟩
  ·omega
set_option maxRecDepth 100000 in
set_option maxHeartbeats 16000000 in
theorem takeApart_p (s D:ByteArray) (w:World) (hs:s.size ≤ 65536) (hT:TabBh w) (hf:∀ j,j ≤ s.size → stS s (j + 1) ≠ 0) (SL PT LT:Nat) (hSL:lastS s 4 (s.size + 1) = SL) (hPT:lastS s 6 (s.size + 1) = PT) (hLT:lastS s 8 (s.size + 1) = LT) (h0:SL = 0) (h1:0 < PT) (h2:LT = 0) (h3:PT < s.size)
  (hD:∀ W,Calls Tryz.prog 65 #[.string (s.extract 0 PT),.string ⟨#[45]⟩] W fun e w' => e = .returned (.string D) ∧ w' = W) :
  Calls Tryz.prog 31 #[.string s] w fun e w' => e = .returned (.tuple #[.agg #[.bool (hasS s 2 (s.size + 1)),.string D,.int .i64 (SL:Nat),.string ⟨#[]⟩,.string (s.extract (PT + 1) s.size),.int .i64 (LT:Nat),.string ⟨#[]⟩],.int .i64 0,.bool true]) ∧ Below w.heap.size w w':=by
 obtain ⟨wo,hwo⟩:∃ x,w.alloc (.cells #[.bool false,.string ⟨#[]⟩,.int .i64 0,.string ⟨#[]⟩,.string ⟨#[]⟩,.int .i64 0,.string ⟨#[]⟩] 64) = x:=⟨_,rfl⟩
 obtain ⟨wp,hwp⟩:∃ x,wo.alloc (.cells #[.bool false,.string ⟨#[]⟩,.int .i64 0,.string ⟨#[]⟩,.string ⟨#[]⟩,.int .i64 0,.string ⟨#[]⟩] 64) = x:=⟨_,rfl⟩
 have bo:Below w.heap.size w wo:=by rw [← hwo]; exact bAl
 have bp:Below wo.heap.size wo wp:=by rw [← hwp]; exact bAl
 have so:=Sv.made w (.bool false) (.string ⟨#[]⟩) (.int .i64 0) (.string ⟨#[]⟩) (.string ⟨#[]⟩) (.int .i64 0) (.string ⟨#[]⟩) 64
 rw [hwo] at so
 have sp:=Sv.made wo (.bool false) (.string ⟨#[]⟩) (.int .i64 0) (.string ⟨#[]⟩) (.string ⟨#[]⟩) (.int .i64 0) (.string ⟨#[]⟩) 64
 rw [hwp] at sp
 have hRo:=so.lt
 have HI0:=Hj (show TkI w wp s w.heap.size wo.heap.size 0 from ⟨sp,so.keep bp,bo.trans (bp.mono bo.size),bo.size,by omega⟩)
 have HT:=Hj hT
 have HF:=Hj hf
 have HSL:=Hj hSL
 have HPT:=Hj hPT
 have HLT:=Hj hLT
 have HD:=Hj hD
 obtain ⟨NG,hNG⟩:∃ b,hasS s 2 (s.size + 1) = b:=⟨_,rfl⟩
 rw [hNG]
 have HNG:=Hj hNG
 clear so sp bo bp hT hf hSL hPT hLT hD hNG
 go_enter Tryz.func31,Tryz.ntmps31
 go_wp2_with fail
 go_loopw [5,8,15] (fun pv sv cv wr => ∃ i:Nat,i ≤ s.size + 1 ∧ pv = .int .i64 (lastS s 6 i:Nat) ∧ sv = .int .u8 (stS s i:Nat) ∧ cv = .int .i64 (i:Nat) ∧ Hid (TkI w wr s w.heap.size wo.heap.size i)) (fun _ _ cv _ => (s.size + 1) - (intOf cv).toNat)
 case atStart => exact ⟨0,by omega,rfl,rfl,rfl,Uh HI0⟩
 case round =>
  clear HI0
  obtain ⟨i,hi,rfl,rfl,rfl,HI⟩:=hrel
  obtain ⟨pv,hpv⟩:∃ z,lastS s 6 i = z:=⟨_,rfl⟩
  rw [hpv]
  have HPV:=Hj hpv
  clear hpv
  by_cases hlt:i < s.size + 1
  ·have hlt':(i:Int) < (s.size:Int) + 1:=by omega
   have hst:=stS_lt s i
   have hkd:=kdA_lt s i
   have hnx:stS s (i + 1) = nxS (stS s i) (kdA s i):=rfl
   have hTb:=(Uh HT).below (Uh HI).bel (stS s i) (kdA s i) hst hkd
   have hslt:=stS_lt s (i + 1)
   have HK:=Hj (fun W => kindAt_any s i W hs (by omega))
   rw [← hnx] at hTb
   obtain ⟨st,hsv⟩:∃ z,stS s i = z:=⟨_,rfl⟩
   obtain ⟨kd,hkv⟩:∃ z,kdA s i = z:=⟨_,rfl⟩
   obtain ⟨nx,hnv⟩:∃ z,stS s (i + 1) = z:=⟨_,rfl⟩
   rw [hsv,hkv,hnv] at hTb
   rw [hkv] at HK
   rw [hsv] at hst ⊢
   rw [hkv] at hkd
   rw [hnv] at hslt
   have HNV:=Hj hnv
   clear hnx hsv hkv hnv
   go_wp2_with fail
   have FT:=fun z:Ext wr => z.cell hTb
   have hNE:=Ext.ne wr
   have hst':(st:Int) < 12:=by omega
   have hkd':(kd:Int) < 8:=by omega
   refine wp_region_ext (by kernel_rfl) (by kernel_rfl) ?_
   repeat (go_big_quiet_step (first
    | (go_at_call 64; rename_i z; exact Ext.call (Uh HK z.w) (fun e w' h => ⟨h.1,by rw [h.2]; exact Below.refl _ _⟩))))
   refine wpQuiet_nil ?_
   rintro _ ⟨xE,rfl⟩
   clear FT hNE hTb HK
   have HI2:=Hj ((Uh HI).keep xE.bel)
   have q0:=(Uh HI2).p.f0
   have q2:=(Uh HI2).p.f2
   have q5:=(Uh HI2).p.f5
   have e0:=(Uh HI2).p.c0
   have e2:=(Uh HI2).p.c2
   have e5:=(Uh HI2).p.c5
   have n0:nx ≠ 0:=by rw [← Uh HNV]; exact Uh HF i (by omega)
   have t0:((nx:Int) == 0) = false:=by simp; omega
   by_cases hc:nx = 2
   ·have t2:((nx:Int) == 2) = true:=by simp [hc]
    have HN:=Hj ((Uh HI2).neg ((Uh HNV).trans hc))
    clear HI
    go_wp2_with fail
    exact ⟨⟨i + 1,by omega,by rw [lastS_step (by rw [Uh HNV]; omega),Uh HPV],by rw [Uh HNV],by (first | rfl | go_num),Uh HN⟩,by simp [intOf]; omega⟩
   ·have t2:((nx:Int) == 2) = false:=by simp; omega
    have hn2:=hc
    clear hc
    by_cases hc:nx = 4
    ·have t4:((nx:Int) == 4) = true:=by simp [hc]
     have HN:=Hj ((Uh HI2).slash ((Uh HNV).trans hc))
     clear HI
     go_wp2_with fail
     exact ⟨⟨i + 1,by omega,by rw [lastS_step (by rw [Uh HNV]; omega),Uh HPV],by rw [Uh HNV],by (first | rfl | go_num),Uh HN⟩,by simp [intOf]; omega⟩
    ·have t4:((nx:Int) == 4) = false:=by simp; omega
     have hn4:=hc
     clear hc
     by_cases hc:nx = 6
     ·have t6:((nx:Int) == 6) = true:=by simp [hc]
      have HN:=Hj ((Uh HI2).same (by rw [Uh HNV]; omega) (by rw [Uh HNV]; omega) (by rw [Uh HNV]; omega))
      clear HI
      go_wp2_with fail
      exact ⟨⟨i + 1,by omega,by rw [lastS_now ((Uh HNV).trans hc)],by rw [Uh HNV],by (first | rfl | go_num),Uh HN⟩,by simp [intOf]; omega⟩
     ·have t6:((nx:Int) == 6) = false:=by simp; omega
      have hn6:=hc
      clear hc
      by_cases hc:nx = 8
      ·have t8:((nx:Int) == 8) = true:=by simp [hc]
       have HN:=Hj ((Uh HI2).letter ((Uh HNV).trans hc))
       clear HI
       go_wp2_with fail
       exact ⟨⟨i + 1,by omega,by rw [lastS_step (by rw [Uh HNV]; omega),Uh HPV],by rw [Uh HNV],by (first | rfl | go_num),Uh HN⟩,by simp [intOf]; omega⟩
      ·have t8:((nx:Int) == 8) = false:=by simp; omega
       have hn8:=hc
       clear hc
       have HN:=Hj ((Uh HI2).same (by rw [Uh HNV]; omega) (by rw [Uh HNV]; omega) (by rw [Uh HNV]; omega))
       clear HI
       go_wp2_with fail
       exact ⟨⟨i + 1,by omega,by rw [lastS_step (by rw [Uh HNV]; omega),Uh HPV],by rw [Uh HNV],by (first | rfl | go_num),Uh HN⟩,by simp [intOf]; omega⟩
  ·have hie:i = s.size + 1:=by omega
   have hlt':¬ (i:Int) < (s.size:Int) + 1:=by omega
   have hpv:=Uh HPV
   rw [hie,Uh HPT] at hpv
   subst hpv
   have hTk:=Uh HI
   rw [hie] at hTk
   have hp:=hTk.p
   rw [Uh HLT,Uh HSL,Uh HNG] at hp
   have u0:=hp.c0
   have u1:=hp.c1
   have u2:=hp.c2
   have u4:=hp.c4
   have u5:=hp.c5
   have u6:=hp.c6
   have x1:=hp.f1
   have x3:=hp.f3
   have x4:=hp.f4
   have x6:=hp.f6
   have HP:=Hj hp
   have HO:=Hj (And.intro hTk.o (And.intro hTk.bel (And.intro hTk.hp hTk.ne)))
   clear hTk hp hie
   have tz:¬ (0:Int) < (SL:Int):=by omega
   have HD2:=Hj (Uh HD)
   have HH:=Hj h0
   clear h0
   have tp:(0:Int) < (PT:Int):=by omega
   have tl:¬ (0:Int) < (LT:Int):=by omega
   clear h2
   have HPP:=Hj ((Uh HP).put4 (.string (s.extract (PT + 1) s.size)))
   have HOP:=Hj (And.intro ((Uh HO).1.far (j:=4) (Uh HO).2.2.2 (.string (s.extract (PT + 1) s.size))) (And.intro (below_put (i:=4) (v:=.string (s.extract (PT + 1) s.size)) (Uh HO).2.1 (Uh HO).2.2.1) (Uh HO).2.2))
   have a1P:=(Uh HPP).c1
   have a2P:=(Uh HPP).c2
   have a4P:=(Uh HPP).c4
   have a5P:=(Uh HPP).c5
   have b1P:=(Uh HPP).f1
   have b4P:=(Uh HPP).f4
   have hp1:(PT:Int) + 1 ≤ (s.size:Int):=by omega
   have hp2:(PT:Int) ≤ (s.size:Int):=by omega
   go_wp2_with fail
   refine (Uh HD2 _).mono ?_
   rintro _ _ ⟨rfl,hw⟩
   obtain rfl:=hw.symm
   clear hw
   have HP2:=Hj ((Uh HPP).put1 (.string D))
   have HO2:=Hj ((Uh HOP).1.far (j:=1) (Uh HOP).2.2.2 (.string D))
   have HB2:=Hj (below_put (i:=1) (v:=.string D) (Uh HOP).2.1 (Uh HOP).2.2.1)
   have HF2:=Hj (((((((Uh HO2).put0 (.bool NG)).put1 (.string D)).put2 (.int .i64 (SL:Nat))).put3 (.string ⟨#[]⟩)).put4 (.string (s.extract (PT + 1) s.size))).put5 (.int .i64 (LT:Nat))).put6 (.string ⟨#[]⟩)
   have HB3:=Hj (below_put (i:=6) (v:=.string ⟨#[]⟩) (below_put (i:=5) (v:=.int .i64 (LT:Nat)) (below_put (i:=4) (v:=.string (s.extract (PT + 1) s.size)) (below_put (i:=3) (v:=.string ⟨#[]⟩) (below_put (i:=2) (v:=.int .i64 (SL:Nat)) (below_put (i:=1) (v:=.string D) (below_put (i:=0) (v:=.bool NG) (Uh HB2) (Nat.le_refl _)) (Nat.le_refl _)) (Nat.le_refl _)) (Nat.le_refl _)) (Nat.le_refl _)) (Nat.le_refl _)) (Nat.le_refl _))
   have hne:=(Uh HOP).2.2.2
   have hne2:=hne.symm
   clear u0 u1 u2 u4 u5 u6 x1 x3 x4 x6
   clear a2P a4P a5P b4P
   have y0:=(Uh HP2).c0
   have y1:=(Uh HP2).c1
   have y2:=(Uh HP2).c2
   have y3:=(Uh HP2).c3
   have y4:=(Uh HP2).c4
   have y5:=(Uh HP2).c5
   have y6:=(Uh HP2).c6
   have z0:=(Uh HO2).c0
   have g0:=(Uh HO2).f0
   have z1:=(Uh HO2).c1
   have g1:=(Uh HO2).f1
   have z2:=(Uh HO2).c2
   have g2:=(Uh HO2).f2
   have z3:=(Uh HO2).c3
   have g3:=(Uh HO2).f3
   have z4:=(Uh HO2).c4
   have g4:=(Uh HO2).f4
   have z5:=(Uh HO2).c5
   have g5:=(Uh HO2).f5
   have z6:=(Uh HO2).c6
   have g6:=(Uh HO2).f6
   go_wp2_with fail
   have k0:=(Uh HF2).c0
   have k1:=(Uh HF2).c1
   have k2:=(Uh HF2).c2
   have k3:=(Uh HF2).c3
   have k4:=(Uh HF2).c4
   have k5:=(Uh HF2).c5
   have k6:=(Uh HF2).c6
   have hB:=Uh HB3
   generalize World.setCell _ ⟨w.heap.size,6,none⟩ (.string ⟨#[]⟩) = wf at k0 k1 k2 k3 k4 k5 k6 hB ⊢
   refine bodyPost_ret (by simp [results,Tryz.results31,go_sem,k0,k1,k2,k3,k4,k5,k6]; try rfl) rfl ?_
   exact ⟨rfl,hB⟩
def ratV (neg:Bool) (a1:Option Addr) (n1 c1:Nat) (a2:Option Addr) (n2 c2:Nat):Value:=.agg #[.bool neg,.slice a1 n1 c1,.slice a2 n2 c2]

def MayR (neg:Bool) (xs ys:List Nat):Bool:=MayL xs && MayL ys && !decide (ys = []) && !(neg && decide (xs = [])) && decide (Nat.gcd (val xs) (val ys) = 1)

def ratBox (w:World) (neg:Bool) (a1:Option Addr) (n1 c1:Nat) (a2:Option Addr) (n2 c2:Nat):World:=w.alloc (.cells #[.bool neg,.slice a1 n1 c1,.slice a2 n2 c2] 25)

theorem one_is {v:Nat}:(limbs v = [1]) = (v = 1):=by
 apply propext
 constructor
 ·intro h
  have:=(limbs_rep v).val
  rw [h] at this
  simp [val] at this
  exact this.symm
 ·intro h
  rw [h,limbs_1]

set_option maxHeartbeats 8000000 in
theorem ratMay_any (neg:Bool) (a1 a2:Option Addr) (n1 c1 n2 c2:Nat) (xs ys:List Nat) (w:World) (h1:Sl w a1 n1 c1 xs) (h2:Sl w a2 n2 c2 ys) (ox:Ok xs) (oy:Ok ys) (hT:Tab64 w) :
  Calls Tryz.prog 6 #[ratV neg a1 n1 c1 a2 n2 c2] w fun e w' => e = .returned (.bool (MayR neg xs ys)) ∧ Below w.heap.size w w':=by
 have bel:Below w.heap.size w (ratBox w neg a1 n1 c1 a2 n2 c2):=bAl
 have d0:(ratBox w neg a1 n1 c1 a2 n2 c2).cell? ⟨w.heap.size,0,none⟩ = some (.bool neg):=by simp [ratBox]
 have d1:(ratBox w neg a1 n1 c1 a2 n2 c2).cell? ⟨w.heap.size,1,none⟩ = some (.slice a1 n1 c1):=by simp [ratBox]
 have d2:(ratBox w neg a1 n1 c1 a2 n2 c2).cell? ⟨w.heap.size,2,none⟩ = some (.slice a2 n2 c2):=by simp [ratBox]
 obtain ⟨wa,hwa⟩:∃ wa,ratBox w neg a1 n1 c1 a2 n2 c2 = wa:=⟨_,rfl⟩
 rw [hwa] at bel d0 d1 d2
 unfold ratBox at hwa
 have K1:=may_any a1 n1 c1 xs wa (h1.below bel)
 have K2:=may_any a2 n2 c2 ys wa (h2.below bel)
 have hl1:=h1.len
 have hl2:=h2.len
 have HB:=Hj bel
 cases m1:MayL xs
 ·rw [m1] at K1
  have K1':=Hj K1
  have HR:=Hj (show MayR neg xs ys = false from by simp [MayR,m1])
  clear K1 K2 h1 h2 hT m1 bel
  unfold ratV
  go_enter Tryz.func6,Tryz.ntmps6
  go_wp2_with fail
  refine (Uh K1').mono ?_
  rintro _ _ ⟨rfl,hw⟩
  obtain rfl:=hw.symm
  clear hw
  go_wp2_with fail
  go_ret
  rw [Uh HR]
  exact ⟨rfl,Uh HB⟩
 ·rw [m1] at K1
  cases m2:MayL ys
  ·rw [m2] at K2
   have K1':=Hj K1
   have K2':=Hj K2
   have HR:=Hj (show MayR neg xs ys = false from by simp [MayR,m2])
   clear K1 K2 h1 h2 hT m1 m2 bel
   unfold ratV
   go_enter Tryz.func6,Tryz.ntmps6
   go_wp2_with fail
   refine (Uh K1').mono ?_
   rintro _ _ ⟨rfl,hw⟩
   obtain rfl:=hw.symm
   clear hw
   go_wp2_with fail
   refine (Uh K2').mono ?_
   rintro _ _ ⟨rfl,hw⟩
   obtain rfl:=hw.symm
   clear hw
   go_wp2_with fail
   go_ret
   rw [Uh HR]
   exact ⟨rfl,Uh HB⟩
  ·rw [m2] at K2
   have K1':=Hj K1
   have K2':=Hj K2
   by_cases hy:ys = []
   ·have HR:=Hj (show MayR neg xs ys = false from by simp [MayR,hy])
    have hn2:n2 = 0:=by rw [← hl2,hy]; rfl
    subst hn2
    clear K1 K2 h1 h2 hT m1 m2 bel
    unfold ratV
    go_enter Tryz.func6,Tryz.ntmps6
    go_wp2_with fail
    refine (Uh K1').mono ?_
    rintro _ _ ⟨rfl,hw⟩
    obtain rfl:=hw.symm
    clear hw
    go_wp2_with fail
    refine (Uh K2').mono ?_
    rintro _ _ ⟨rfl,hw⟩
    obtain rfl:=hw.symm
    clear hw
    go_wp2_with fail
    go_ret
    rw [Uh HR]
    exact ⟨rfl,Uh HB⟩
   ·have hn2:0 < n2:=by rw [← hl2]; exact List.length_pos_iff.2 hy
    have t1:((n2:Int) == 0) = false:=by simp; omega
    have t2:¬ (n2:Int) = 0:=by omega
    by_cases hz:neg = true ∧ xs = []
    ·obtain ⟨rfl,hx⟩:=hz
     have hn1:n1 = 0:=by rw [← hl1,hx]; rfl
     subst hn1
     have HR:=Hj (show MayR true xs ys = false from by simp [MayR,hx])
     clear K1 K2 h1 h2 hT m1 m2 bel
     unfold ratV
     go_enter Tryz.func6,Tryz.ntmps6
     go_wp2_with fail
     refine (Uh K1').mono ?_
     rintro _ _ ⟨rfl,hw⟩
     obtain rfl:=hw.symm
     clear hw
     go_wp2_with fail
     refine (Uh K2').mono ?_
     rintro _ _ ⟨rfl,hw⟩
     obtain rfl:=hw.symm
     clear hw
     go_wp2_with fail
     go_ret
     rw [Uh HR]
     exact ⟨rfl,Uh HB⟩
    ·have hz2:neg = false ∨ ¬ xs = []:=by
      cases neg
      ·exact .inl rfl
      ·right; intro e; exact hz ⟨rfl,e⟩
     obtain ⟨G,hG⟩:∃ G,Nat.gcd (val xs) (val ys) = G:=⟨_,rfl⟩
     have HR:=Hj (show MayR neg xs ys = decide (G = 1) from by
      subst hG
      rcases hz2 with e | e
      ·simp [MayR,m1,m2,hy,e]
      ·simp [MayR,m1,m2,hy,e])
     have KD0:=ratDivisor_any a1 a2 n1 c1 n2 c2 xs ys wa (h1.below bel) (h2.below bel) ox oy m1 m2 (hT.below bel)
     rw [hG] at KD0
     have KD:=Hj KD0
     clear KD0 hG
     have hz3:neg = false ∨ (neg = true ∧ 0 < n1):=by
      cases neg
      ·exact .inl rfl
      ·right
       refine ⟨rfl,?_⟩
       rw [← hl1]
       exact List.length_pos_iff.2 (hz2.resolve_left (by simp))
     clear K1 K2 h1 h2 hT m1 m2 bel hz hz2
     unfold ratV
     rcases hz3 with rfl | ⟨rfl,hn1⟩
     ·go_enter Tryz.func6,Tryz.ntmps6
      go_wp2_with fail
      refine (Uh K1').mono ?_
      rintro _ _ ⟨rfl,hw⟩
      obtain rfl:=hw.symm
      clear hw
      go_wp2_with fail
      refine (Uh K2').mono ?_
      rintro _ _ ⟨rfl,hw⟩
      obtain rfl:=hw.symm
      clear hw
      go_wp2_with fail
      refine (Uh KD).mono ?_
      rintro _ w1 ⟨a3,m3,c3,rfl,s3,n3,b3⟩
      have KI:=isOne_any a3 m3 c3 (limbs G) w1 s3 (limbs_rep G).ok
      simp only [one_is] at KI
      have KI':=Hj KI
      have HB1:=Hj ((Uh HB).trans (b3.mono (Uh HB).size))
      clear KI s3 n3 b3
      go_wp2_with fail
      refine (Uh KI').mono ?_
      rintro _ _ ⟨rfl,hw⟩
      obtain rfl:=hw.symm
      clear hw
      go_wp2_with fail
      go_ret
      rw [Uh HR]
      exact ⟨rfl,Uh HB1⟩
     ·have t3:((n1:Int) == 0) = false:=by simp; omega
      have t4:¬ (n1:Int) = 0:=by omega
      go_enter Tryz.func6,Tryz.ntmps6
      go_wp2_with fail
      refine (Uh K1').mono ?_
      rintro _ _ ⟨rfl,hw⟩
      obtain rfl:=hw.symm
      clear hw
      go_wp2_with fail
      refine (Uh K2').mono ?_
      rintro _ _ ⟨rfl,hw⟩
      obtain rfl:=hw.symm
      clear hw
      go_wp2_with fail
      refine (Uh KD).mono ?_
      rintro _ w1 ⟨a3,m3,c3,rfl,s3,n3,b3⟩
      have KI:=isOne_any a3 m3 c3 (limbs G) w1 s3 (limbs_rep G).ok
      simp only [one_is] at KI
      have KI':=Hj KI
      have HB1:=Hj ((Uh HB).trans (b3.mono (Uh HB).size))
      clear KI s3 n3 b3
      go_wp2_with fail
      refine (Uh KI').mono ?_
      rintro _ _ ⟨rfl,hw⟩
      obtain rfl:=hw.symm
      clear hw
      go_wp2_with fail
      go_ret
      rw [Uh HR]
      exact ⟨rfl,Uh HB1⟩
section
variable {P:Program} {w:World}
theorem wpList_append_firstR {ops:Array Oper} {rest:List Oper} {o:Oper} {a:Act} {Q:Exit → Act → World → Prop} (hgd:o.guard = none) (s x:Operand) (t:TypeId)
  (ho:o.op = .call { callee:=.builtin .append,args:=#[s,x],argTypes:=#[t,t] })
  (base:Nat) (e:TypeId) (i:TypeInfo) (z:Value) (bytes:Nat) (ht:P.underlying t = some (.slice e)) (hi:P.info? e = some i) (hz:i.zero = some z)
  (hsize:i.size = 1) (hby:i.bytes = bytes) (hzs:z.cells.size = 1) (g0:Nat)
  (hs:a.eval s = .slice (some ⟨g0,0,none⟩) 0 0) (hown:w.ownsRow base e 1 (.slice (some ⟨g0,0,none⟩) 0 0) 0 [])
  (ao:Option Addr) (m c:Nat) (news:List Value) (hx:a.eval x = .slice ao m c) (hl:news.length = m) (hnone:ao = none → m = 0 ∧ c = 0)
  (hnews:∀ ad,ao = some ad → ∀ j u,news[j]? = some u → w.cell? (ad.add j) = some u) (h1:∀ u ∈ news,u.oneCell' = true)
  (h63:m ≤ maxLen) (hbytes:m * bytes ≤ 140737488355328) (hbase:base ≤ w.heap.size)
  (h:∀ g cap w',w'.ownsRow base e 1 (.slice (some ⟨g,0,none⟩) m cap) m news → w.grownBy w' (some g0) → wpList P ops Q rest (a.put o.dst (.slice (some ⟨g,0,none⟩) m cap)) w'):wpList P ops Q (o :: rest) a w:=by
 by_cases hm:m = 0
 ·refine wpList_append_fits_any w hgd s x t ho base e i 1 ht hi hsize g0 0 0 [] hs hown ao m c news hx (by simpa using hl) hnone hnews h1 (by omega) ?_
  intro w' k1 k2
  simp only [Nat.zero_add,List.nil_append] at k1 ⊢
  exact h g0 0 w' k1 k2
 ·cases ao with
  | none => exact absurd (hnone rfl).1 hm
  | some ad =>
   refine wpList_append_lies w hgd s x t ho base e i z 1 bytes ht hi hz hsize hby hzs (by decide) _ 0 [] hs hown ad m c news hx (by simpa using hl) (hnews ad rfl) h1 (by omega) (by simpa using h63) (by simpa using hbytes) hbase _ rfl ?_
   intro g cap w' k1 k2 _ _
   simp only [Nat.zero_add,List.nil_append] at k1 ⊢
   exact h g cap w' k1 k2
end

theorem valsR_one (xs:List Nat):∀ u ∈ vals xs,u.oneCell' = true:=by
 intro u hu
 simp [vals] at hu
 obtain ⟨x,_,rfl⟩:=hu
 rfl

def NewS (w w':World) (xs:List Nat) (e:Ending):Prop:=∃ a m c,e = .returned (.slice a m c) ∧ Sl w' a m c xs ∧ NewAt w.heap.size a ∧ Below w.heap.size w w'

set_option maxHeartbeats 4000000 in
theorem sclone_any (a:Option Addr) (n c:Nat) (xs:List Nat) (w:World) (h:Sl w a n c xs) (hn:n ≤ 1000000) :
  Calls Tryz.prog 79 #[.slice a n c] w fun e w' => NewS w w' xs e:=by
 have hl:=h.len
 cases a with
 | none =>
  have hx:xs = []:=by
   rcases h.cells with e | ⟨b,off,e,_⟩
   ·exact e
   ·cases e
  subst hx
  simp at hl
  subst hl
  clear h
  have hq:=fun w => (show (binOp .eql 23 (.slice none 0 c) (.slice none 0 0)).run Tryz.prog w = .ok (.bool (none:Option Addr).isNone) w from by apply Lib.run_eql_slice_nil; exact Tryz.underlying23)
  simp only [Option.isNone_none] at hq
  go_enter Tryz.func79,Tryz.ntmps79
  go_wp2_with fail
  go_ret
  exact ⟨none,0,0,rfl,sl_nil _,newAt_nil _,Below.refl _ _⟩
 | some x =>
  obtain ⟨i80,hi80,hz80,hs80,hb80⟩:=info_parts Tryz.info_u32
  have I80:=Hj (And.intro hi80 (And.intro hz80 (And.intro hs80 hb80)))
  have H:=Hj h
  clear hi80 hz80 hs80 hb80 h
  have hq:=fun w => (show (binOp .eql 23 (.slice (some x) n c) (.slice none 0 0)).run Tryz.prog w = .ok (.bool (some x).isNone) w from by apply Lib.run_eql_slice_nil; exact Tryz.underlying23)
  simp only [Option.isNone_some] at hq
  go_enter Tryz.func79,Tryz.ntmps79
  go_wp2_with (at_builtin; refine wpList_append_firstR rfl _ _ 23 rfl w.heap.size 84 i80 (.int .u32 0) 4 Tryz.underlying23 (Uh I80).1 (Uh I80).2.1 (Uh I80).2.2.1 (Uh I80).2.2.2 rfl w.heap.size rfl ⟨rfl,.inr ⟨w.heap.size,0,#[],rfl,Nat.le_refl _,alloc_block _ _,Nat.le_refl _,Nat.zero_le _,rfl,rfl⟩⟩ (some x) n c (vals xs) rfl (by simp [vals,hl]) (by intro e; cases e) ?hnews (valsR_one xs) (by unfold maxLen; omega) (by omega) (by simp) ?_)
  case hnews =>
   intro ad had j u hu
   have hj:j < xs.length:=by
    have:=(List.getElem?_eq_some_iff.1 hu).1
    simpa [vals] using this
   have hne:xs ≠ []:=by intro e; rw [e] at hj; simp at hj
   obtain ⟨b,off,e,hc⟩:=(Uh H).cells.resolve_left hne
   rw [e] at had
   cases had
   have h1:=hc j hj
   have e2:(⟨b,off,none⟩:Addr).add j = ⟨b,off + j,none⟩:=by unfold Addr.add; split <;> simp_all
   rw [e2,World.cell?_alloc_lt _ _ _ (World.block_lt_of_cell? _ _ h1),h1,← hu]
   simp [vals,List.getD,hj]
  intro g cap w2 hown hgrow
  obtain ⟨a2,c2,e2,s2,n2⟩:=own_sl hown
  cases e2
  have HB:=Hj (show Below w.heap.size w w2 from Below.grown (bAl) hgrow (by simp) (fun k hk => by cases hk; exact Nat.le_refl _))
  have HS:=Hj (And.intro s2 n2)
  clear hown hgrow s2 n2
  go_wp2_with fail
  go_ret
  exact ⟨_,n,cap,rfl,(Uh HS).1,(Uh HS).2,Uh HB⟩

set_option maxHeartbeats 4000000 in
theorem signed_any (neg:Bool) (a1 a2:Option Addr) (n1 c1 n2 c2:Nat) (w:World) :
  Calls Tryz.prog 78 #[.bool neg,.slice a1 n1 c1,.slice a2 n2 c2] w fun e w' => e = .returned (ratV (neg && decide (0 < n1)) a1 n1 c1 a2 n2 c2) ∧ Below w.heap.size w w':=by
 have bel:∀ g,Below w.heap.size w (w.alloc (.cells #[.bool g,.slice a1 n1 c1,.slice a2 n2 c2] 25)):=fun g => bAl
 have HB:=Hj bel
 clear bel
 cases neg
 ·go_enter Tryz.func78,Tryz.ntmps78
  go_wp2_with fail
  refine bodyPost_ret (by simp [results,Tryz.results78,go_sem]; try rfl) rfl ?_
  exact ⟨rfl,Uh HB false⟩
 ·by_cases h0:0 < n1
  ·have h0':(0:Int) < (n1:Int):=by omega
   go_enter Tryz.func78,Tryz.ntmps78
   go_wp2_with fail
   refine bodyPost_ret (by simp [results,Tryz.results78,go_sem]; try rfl) rfl ?_
   exact ⟨by simp [ratV,h0],Uh HB true⟩
  ·have h0':n1 = 0:=by omega
   subst h0'
   go_enter Tryz.func78,Tryz.ntmps78
   go_wp2_with fail
   refine bodyPost_ret (by simp [results,Tryz.results78,go_sem]; try rfl) rfl ?_
   exact ⟨by simp [ratV],Uh HB false⟩

set_option maxHeartbeats 4000000 in
theorem isZero_any (neg:Bool) (a1 a2:Option Addr) (n1 c1 n2 c2:Nat) (w:World) :
  Calls Tryz.prog 50 #[ratV neg a1 n1 c1 a2 n2 c2] w fun e w' => e = .returned (.bool (decide (n1 = 0))) ∧ Below w.heap.size w w':=by
 have bel:Below w.heap.size w (w.alloc (.cells #[.bool neg,.slice a1 n1 c1,.slice a2 n2 c2] 25)):=bAl
 have HB:=Hj bel
 clear bel
 unfold ratV
 by_cases h0:n1 = 0
 ·subst h0
  go_enter Tryz.func50,Tryz.ntmps50
  go_wp2_with fail
  go_ret
  exact ⟨by simp,Uh HB⟩
 ·have t1:((n1:Int) == 0) = false:=by simp; omega
  have t2:¬ (n1:Int) = 0:=by omega
  go_enter Tryz.func50,Tryz.ntmps50
  go_wp2_with fail
  go_ret
  exact ⟨by simp [h0],Uh HB⟩
end Go.Proofs.YtmnlhnmlgncedaaGreatDoor
