/- Rpd -/
import Derived.Test.YtmnlhnmlgncedaaGreatDoorRpb
import Derived.Test.YtmnlhnmlgncedaaGreatDoorRa3
import Derived.Test.YtmnlhnmlgncedaaGreatDoorRa6
import Derived.Test.YtmnlhnmlgncedaaGreatDoorRu3
import Derived.Test.YtmnlhnmlgncedaaGreatDoorRl2
import Derived.Test.YtmnlhnmlgncedaaGreatDoorDv4
namespace Go.Proofs.YtmnlhnmlgncedaaGreatDoor
open Go.RowKit Go.Deep
set_option linter.unusedVariables false
def PsPost (w w':World) (g:Bool) (x y:List Nat) (at_ er:Int) (e:Ending):Prop:=∃ v,e = .returned (.tuple #[v,.int .i64 at_,.int .i64 er]) ∧ NewR w w' g x y v
set_option maxRecDepth 100000 in
set_option maxHeartbeats 32000000 in
theorem parse_long (s:ByteArray) (w:World) (hs:65536 < s.size) :
  Calls Tryz.prog 8 #[.string s] w fun e w' => PsPost w w' false [] [] 65536 4 e:=by
 obtain ⟨wo,hwo⟩:∃ z,w.alloc (.cells #[.bool false,.slice none 0 0,.slice none 0 0] 25) = z:=⟨_,rfl⟩
 have hbo:Below w.heap.size w wo:=by rw [← hwo]; exact bAl
 have hO:=Out.made w
 rw [hwo] at hO
 have HO:=Hj (And.intro hO hbo)
 have hs':(65536:Int) < (s.size:Int):=by omega
 have HX:=Hj (Below.refl wo.heap.size wo)
 clear hO hbo hs
 go_enter Tryz.func8,Tryz.ntmps8
 have hO8:=(Uh HO).1.keep (Uh HX)
 obtain ⟨j0,u0⟩:=hO8.cells 0 (by decide)
 obtain ⟨j1,u1⟩:=hO8.cells 1 (by decide)
 obtain ⟨j2,u2⟩:=hO8.cells 2 (by decide)
 have v0:=hO8.fz 0 (by decide)
 have v1:=hO8.fz 1 (by decide)
 have v2:=hO8.fz 2 (by decide)
 have HR:=Hj (And.intro (three_set wo w.heap.size (.bool false) (.slice none 0 0) (.slice none 0 0) hO8.cells) (ret_Q (w:=w) (gy:=false) hO8 (sl_nil _) (sl_nil _) (fun p hp => by cases hp) (fun p hp => by cases hp) ((Uh HO).2.trans ((Uh HX).mono (Uh HO).2.size)) (Nat.le_refl _)))
 clear hO8
 go_wp2_with fail
 obtain ⟨⟨t0_,t1_,t2_,cc_⟩,hR⟩:=Uh HR
 generalize ((wo.setCell ⟨w.heap.size,0,none⟩ (.bool false)).setCell ⟨w.heap.size,1,none⟩ (.slice none 0 0)).setCell ⟨w.heap.size,2,none⟩ (.slice none 0 0) = wf at *
 refine bodyPost_ret (by simp [results,Tryz.results8,go_sem,t0_,t1_,t2_]; try rfl) rfl ?_
 exact ⟨_,rfl,hR⟩
set_option maxRecDepth 100000 in
set_option maxHeartbeats 32000000 in
theorem parse_bad (s:ByteArray) (b:Nat) (w:World) (hs:s.size ≤ 65536) (hTB:TabBh w)
  (hTk:∀ W,TabBh W → Calls Tryz.prog 31 #[.string s] W fun e w' => e = .returned (.tuple #[.agg #[.bool false,.string ⟨#[]⟩,.int .i64 0,.string ⟨#[]⟩,.string ⟨#[]⟩,.int .i64 0,.string ⟨#[]⟩],.int .i64 (b:Nat),.bool false]) ∧ Below W.heap.size W w') :
  Calls Tryz.prog 8 #[.string s] w fun e w' => PsPost w w' false [] [] (b:Nat) 5 e:=by
 obtain ⟨wo,hwo⟩:∃ z,w.alloc (.cells #[.bool false,.slice none 0 0,.slice none 0 0] 25) = z:=⟨_,rfl⟩
 have hbo:Below w.heap.size w wo:=by rw [← hwo]; exact bAl
 have hO:=Out.made w
 rw [hwo] at hO
 have HO:=Hj (And.intro hO hbo)
 have hs':¬ (65536:Int) < (s.size:Int):=by omega
 have HTk:=Hj (hTk wo (hTB.below hbo))
 clear hO hbo hs hTk hTB
 go_enter Tryz.func8,Tryz.ntmps8
 go_wp2_with fail
 refine (Uh HTk).mono ?_
 rintro _ w1 ⟨rfl,b1⟩
 have bp:Below w1.heap.size w1 (w1.alloc (.cells #[.bool false,.string ⟨#[]⟩,.int .i64 0,.string ⟨#[]⟩,.string ⟨#[]⟩,.int .i64 0,.string ⟨#[]⟩] 64)):=bAl
 have HX:=Hj (b1.trans (bp.mono b1.size))
 clear bp b1 HTk
 have hO8:=(Uh HO).1.keep (Uh HX)
 obtain ⟨j0,u0⟩:=hO8.cells 0 (by decide)
 obtain ⟨j1,u1⟩:=hO8.cells 1 (by decide)
 obtain ⟨j2,u2⟩:=hO8.cells 2 (by decide)
 have v0:=hO8.fz 0 (by decide)
 have v1:=hO8.fz 1 (by decide)
 have v2:=hO8.fz 2 (by decide)
 have HR:=Hj (And.intro (three_set (w1.alloc (.cells #[.bool false,.string ⟨#[]⟩,.int .i64 0,.string ⟨#[]⟩,.string ⟨#[]⟩,.int .i64 0,.string ⟨#[]⟩] 64)) w.heap.size (.bool false) (.slice none 0 0) (.slice none 0 0) hO8.cells) (ret_Q (w:=w) (gy:=false) hO8 (sl_nil _) (sl_nil _) (fun p hp => by cases hp) (fun p hp => by cases hp) ((Uh HO).2.trans ((Uh HX).mono (Uh HO).2.size)) (Nat.le_refl _)))
 clear hO8
 go_wp2_with fail
 obtain ⟨⟨t0_,t1_,t2_,cc_⟩,hR⟩:=Uh HR
 generalize (((w1.alloc (.cells #[.bool false,.string ⟨#[]⟩,.int .i64 0,.string ⟨#[]⟩,.string ⟨#[]⟩,.int .i64 0,.string ⟨#[]⟩] 64)).setCell ⟨w.heap.size,0,none⟩ (.bool false)).setCell ⟨w.heap.size,1,none⟩ (.slice none 0 0)).setCell ⟨w.heap.size,2,none⟩ (.slice none 0 0) = wf at *
 refine bodyPost_ret (by simp [results,Tryz.results8,go_sem,t0_,t1_,t2_]; try rfl) rfl ?_
 exact ⟨_,rfl,hR⟩
set_option maxRecDepth 100000 in
set_option maxHeartbeats 32000000 in
theorem parse_zD (g:Bool) (s D U PL PW:ByteArray) (SL LT:Nat) (w:World) (hs:s.size ≤ 65536) (hT:Tab64 w) (hTB:TabBh w)
  (hTk:∀ W,TabBh W → Calls Tryz.prog 31 #[.string s] W fun e w' => e = .returned (.tuple #[.agg #[.bool g,.string D,.int .i64 (SL:Nat),.string U,.string PL,.int .i64 (LT:Nat),.string PW],.int .i64 0,.bool true]) ∧ Below W.heap.size W w') (h0:SL = 0)
  (P:Int) (hRp:∀ W,Calls Tryz.prog 33 #[.string PW] W fun e w' => e = .returned (.tuple #[.int .i64 P,.bool false]) ∧ Below W.heap.size W w') :
  Calls Tryz.prog 8 #[.string s] w fun e w' => PsPost w w' false [] [] (LT:Nat) 1 e:=by
 obtain ⟨wo,hwo⟩:∃ z,w.alloc (.cells #[.bool false,.slice none 0 0,.slice none 0 0] 25) = z:=⟨_,rfl⟩
 have hbo:Below w.heap.size w wo:=by rw [← hwo]; exact bAl
 have hO:=Out.made w
 rw [hwo] at hO
 have HO:=Hj (And.intro hO hbo)
 have hs':¬ (65536:Int) < (s.size:Int):=by omega
 have HTk:=Hj (hTk wo (hTB.below hbo))
 have HT:=Hj (hT.below hbo)
 have tz:¬ (0:Int) < (SL:Int):=by omega
 have HRp:=Hj hRp
 clear hO hbo hTk hT hTB hs h0 hRp
 go_enter Tryz.func8,Tryz.ntmps8
 go_wp2_with fail
 refine (Uh HTk).mono ?_
 rintro _ w1 ⟨rfl,b1⟩
 have HB1:=Hj b1
 clear b1 HTk
 go_wp2_with fail
 have bp:Below w1.heap.size w1 (w1.alloc (.cells #[.bool g,.string D,.int .i64 (SL:Nat),.string U,.string PL,.int .i64 (LT:Nat),.string PW] 64)):=bAl
 have sp:=Sv.made w1 (.bool g) (.string D) (.int .i64 (SL:Nat)) (.string U) (.string PL) (.int .i64 (LT:Nat)) (.string PW) 64
 generalize w1.alloc (.cells #[.bool g,.string D,.int .i64 (SL:Nat),.string U,.string PL,.int .i64 (LT:Nat),.string PW] 64) = wp at *
 have hbp:=(Uh HB1).trans (bp.mono (Uh HB1).size)
 have HP:=Hj (And.intro sp (And.intro hbp (Uh HB1).size))
 have HX:=Hj hbp
 clear bp hbp sp
 refine (Uh HRp _).mono ?_
 rintro _ w3 ⟨rfl,b3⟩
 have sp:=(Uh HP).1.keep b3
 have hbp:=(Uh HP).2.1.trans (b3.mono (Uh HP).2.1.size)
 have HP3:=Hj (And.intro sp (And.intro hbp (Uh HP).2.2))
 have HX:=Hj hbp
 have e0:=sp.c0
 have e1:=sp.c1
 have e2:=sp.c2
 have e3:=sp.c3
 have e4:=sp.c4
 have e5:=sp.c5
 have e6:=sp.c6
 clear b3 sp hbp
 have hneC:w1.heap.size ≠ w.heap.size:=by have h1:=(Uh HO).1.lt; have h2:=(Uh HP).2.2; omega
 have hO8:=(Uh HO).1.keep (Uh HX)
 obtain ⟨j0,u0⟩:=hO8.cells 0 (by decide)
 obtain ⟨j1,u1⟩:=hO8.cells 1 (by decide)
 obtain ⟨j2,u2⟩:=hO8.cells 2 (by decide)
 have v0:=hO8.fz 0 (by decide)
 have v1:=hO8.fz 1 (by decide)
 have v2:=hO8.fz 2 (by decide)
 have HR:=Hj (And.intro (three_set w3 w.heap.size (.bool false) (.slice none 0 0) (.slice none 0 0) hO8.cells) (ret_Q (w:=w) (gy:=false) hO8 (sl_nil _) (sl_nil _) (fun p hp => by cases hp) (fun p hp => by cases hp) ((Uh HO).2.trans ((Uh HX).mono (Uh HO).2.size)) (Nat.le_refl _)))
 clear hO8
 go_wp2_with fail
 go_region
 all_goals
  (try go_wp2_with fail)
  obtain ⟨⟨t0_,t1_,t2_,cc_⟩,hR⟩:=Uh HR
  generalize ((w3.setCell ⟨w.heap.size,0,none⟩ (.bool false)).setCell ⟨w.heap.size,1,none⟩ (.slice none 0 0)).setCell ⟨w.heap.size,2,none⟩ (.slice none 0 0) = wf at *
  refine bodyPost_ret (by simp [results,Tryz.results8,go_sem,t0_,t1_,t2_]; try rfl) rfl ?_
  exact ⟨_,rfl,(by first | exact hR | exact hR.drewQ)⟩
set_option maxRecDepth 100000 in
set_option maxHeartbeats 32000000 in
theorem parse_zE (g:Bool) (s D U PL PW:ByteArray) (SL LT:Nat) (w:World) (hs:s.size ≤ 65536) (hT:Tab64 w) (hTB:TabBh w)
  (hTk:∀ W,TabBh W → Calls Tryz.prog 31 #[.string s] W fun e w' => e = .returned (.tuple #[.agg #[.bool g,.string D,.int .i64 (SL:Nat),.string U,.string PL,.int .i64 (LT:Nat),.string PW],.int .i64 0,.bool true]) ∧ Below W.heap.size W w') (h0:SL = 0)
  (P:Int) (hRp:∀ W,Calls Tryz.prog 33 #[.string PW] W fun e w' => e = .returned (.tuple #[.int .i64 P,.bool true]) ∧ Below W.heap.size W w')
  (x y:List Nat) (er:Int) (he:er ≠ 0) (hWr:∀ W,Calls Tryz.prog 34 #[.agg #[.bool g,.string D,.int .i64 (SL:Nat),.string U,.string PL,.int .i64 (LT:Nat),.string PW],.int .i64 P] W fun e w' => WuPost W x y er e w') :
  Calls Tryz.prog 8 #[.string s] w fun e w' => PsPost w w' false [] [] 0 er e:=by
 obtain ⟨wo,hwo⟩:∃ z,w.alloc (.cells #[.bool false,.slice none 0 0,.slice none 0 0] 25) = z:=⟨_,rfl⟩
 have hbo:Below w.heap.size w wo:=by rw [← hwo]; exact bAl
 have hO:=Out.made w
 rw [hwo] at hO
 have HO:=Hj (And.intro hO hbo)
 have hs':¬ (65536:Int) < (s.size:Int):=by omega
 have HTk:=Hj (hTk wo (hTB.below hbo))
 have HT:=Hj (hT.below hbo)
 have tz:¬ (0:Int) < (SL:Int):=by omega
 have HRp:=Hj hRp
 have HW:=Hj hWr
 clear hO hbo hTk hT hTB hs h0 hRp hWr
 have te:(er != 0) = true:=by simpa using he
 clear he
 go_enter Tryz.func8,Tryz.ntmps8
 go_wp2_with fail
 refine (Uh HTk).mono ?_
 rintro _ w1 ⟨rfl,b1⟩
 have HB1:=Hj b1
 clear b1 HTk
 go_wp2_with fail
 have bp:Below w1.heap.size w1 (w1.alloc (.cells #[.bool g,.string D,.int .i64 (SL:Nat),.string U,.string PL,.int .i64 (LT:Nat),.string PW] 64)):=bAl
 have sp:=Sv.made w1 (.bool g) (.string D) (.int .i64 (SL:Nat)) (.string U) (.string PL) (.int .i64 (LT:Nat)) (.string PW) 64
 generalize w1.alloc (.cells #[.bool g,.string D,.int .i64 (SL:Nat),.string U,.string PL,.int .i64 (LT:Nat),.string PW] 64) = wp at *
 have hbp:=(Uh HB1).trans (bp.mono (Uh HB1).size)
 have HP:=Hj (And.intro sp (And.intro hbp (Uh HB1).size))
 have HX:=Hj hbp
 clear bp hbp sp
 refine (Uh HRp _).mono ?_
 rintro _ w3 ⟨rfl,b3⟩
 have sp:=(Uh HP).1.keep b3
 have hbp:=(Uh HP).2.1.trans (b3.mono (Uh HP).2.1.size)
 have HP3:=Hj (And.intro sp (And.intro hbp (Uh HP).2.2))
 have HX:=Hj hbp
 have e0:=sp.c0
 have e1:=sp.c1
 have e2:=sp.c2
 have e3:=sp.c3
 have e4:=sp.c4
 have e5:=sp.c5
 have e6:=sp.c6
 clear b3 sp hbp
 go_wp2_with fail
 refine (Uh HW _).mono ?_
 rintro _ w4 ⟨an,nn,cn,ad,nd,cd,rfl,sn,sd,b4⟩
 have hb4:=(Uh HP3).2.1.trans (b4.mono (Uh HP3).2.1.size)
 have i0:=((Uh HP3).1.keep b4).c0
 have HX:=Hj hb4
 have hne4:w1.heap.size ≠ w.heap.size:=by have h1:=(Uh HO).1.lt; have h2:=(Uh HP3).2.2; omega
 clear sn sd b4 hb4 e0 e1 e2 e3 e4 e5 e6
 have hO8:=(Uh HO).1.keep (Uh HX)
 obtain ⟨j0,u0⟩:=hO8.cells 0 (by decide)
 obtain ⟨j1,u1⟩:=hO8.cells 1 (by decide)
 obtain ⟨j2,u2⟩:=hO8.cells 2 (by decide)
 have v0:=hO8.fz 0 (by decide)
 have v1:=hO8.fz 1 (by decide)
 have v2:=hO8.fz 2 (by decide)
 have HR:=Hj (And.intro (three_set w4 w.heap.size (.bool false) (.slice none 0 0) (.slice none 0 0) hO8.cells) (ret_Q (w:=w) (gy:=false) hO8 (sl_nil _) (sl_nil _) (fun p hp => by cases hp) (fun p hp => by cases hp) ((Uh HO).2.trans ((Uh HX).mono (Uh HO).2.size)) (Nat.le_refl _)))
 clear hO8
 go_wp2_with fail
 obtain ⟨⟨t0_,t1_,t2_,cc_⟩,hR⟩:=Uh HR
 generalize ((w4.setCell ⟨w.heap.size,0,none⟩ (.bool false)).setCell ⟨w.heap.size,1,none⟩ (.slice none 0 0)).setCell ⟨w.heap.size,2,none⟩ (.slice none 0 0) = wf at *
 refine bodyPost_ret (by simp [results,Tryz.results8,go_sem,t0_,t1_,t2_]; try rfl) rfl ?_
 exact ⟨_,rfl,hR⟩
set_option maxRecDepth 100000 in
set_option maxHeartbeats 32000000 in
theorem parse_zF (g:Bool) (s D U PL PW:ByteArray) (SL LT:Nat) (w:World) (hs:s.size ≤ 65536) (hT:Tab64 w) (hTB:TabBh w)
  (hTk:∀ W,TabBh W → Calls Tryz.prog 31 #[.string s] W fun e w' => e = .returned (.tuple #[.agg #[.bool g,.string D,.int .i64 (SL:Nat),.string U,.string PL,.int .i64 (LT:Nat),.string PW],.int .i64 0,.bool true]) ∧ Below W.heap.size W w') (h0:SL = 0)
  (P:Int) (hRp:∀ W,Calls Tryz.prog 33 #[.string PW] W fun e w' => e = .returned (.tuple #[.int .i64 P,.bool true]) ∧ Below W.heap.size W w')
  (x y:List Nat) (ox:Ok x) (oy:Ok y) (kx:MayL x = true) (ky:MayL y = true) (ey:y ≠ []) (hWr:∀ W,Calls Tryz.prog 34 #[.agg #[.bool g,.string D,.int .i64 (SL:Nat),.string U,.string PL,.int .i64 (LT:Nat),.string PW],.int .i64 P] W fun e w' => WuPost W x y 0 e w') :
  Calls Tryz.prog 8 #[.string s] w fun e w' => PsPost w w' (g && decide (x ≠ [])) (limbs (val x / Nat.gcd (val x) (val y))) (limbs (val y / Nat.gcd (val x) (val y))) 0 0 e:=by
 obtain ⟨wo,hwo⟩:∃ z,w.alloc (.cells #[.bool false,.slice none 0 0,.slice none 0 0] 25) = z:=⟨_,rfl⟩
 have hbo:Below w.heap.size w wo:=by rw [← hwo]; exact bAl
 have hO:=Out.made w
 rw [hwo] at hO
 have HO:=Hj (And.intro hO hbo)
 have hs':¬ (65536:Int) < (s.size:Int):=by omega
 have HTk:=Hj (hTk wo (hTB.below hbo))
 have HT:=Hj (hT.below hbo)
 have tz:¬ (0:Int) < (SL:Int):=by omega
 have HRp:=Hj hRp
 have HW:=Hj hWr
 obtain ⟨rn,hrn⟩:∃ z,limbs (val x / Nat.gcd (val x) (val y)) = z:=⟨_,rfl⟩
 obtain ⟨rd,hrd⟩:∃ z,limbs (val y / Nat.gcd (val x) (val y)) = z:=⟨_,rfl⟩
 obtain ⟨gg,hgg⟩:∃ z,(g && decide (x ≠ [])) = z:=⟨_,rfl⟩
 have HKLO:=Hj (fun (an ad:Option Addr) (nn cn nd cd:Nat) (W:World) (h1:Sl W an nn cn x) (h2:Sl W ad nd cd y) (h3:Tab64 W) => lowest_any g an ad nn cn nd cd x y W h1 h2 ox oy kx ky ey h3)
 rw [hrn,hrd,hgg] at HKLO
 rw [hrn,hrd,hgg]
 clear hrn hrd hgg ox oy kx ky ey
 clear hO hbo hTk hT hTB hs h0 hRp hWr
 go_enter Tryz.func8,Tryz.ntmps8
 go_wp2_with fail
 refine (Uh HTk).mono ?_
 rintro _ w1 ⟨rfl,b1⟩
 have HB1:=Hj b1
 clear b1 HTk
 go_wp2_with fail
 have bp:Below w1.heap.size w1 (w1.alloc (.cells #[.bool g,.string D,.int .i64 (SL:Nat),.string U,.string PL,.int .i64 (LT:Nat),.string PW] 64)):=bAl
 have sp:=Sv.made w1 (.bool g) (.string D) (.int .i64 (SL:Nat)) (.string U) (.string PL) (.int .i64 (LT:Nat)) (.string PW) 64
 generalize w1.alloc (.cells #[.bool g,.string D,.int .i64 (SL:Nat),.string U,.string PL,.int .i64 (LT:Nat),.string PW] 64) = wp at *
 have hbp:=(Uh HB1).trans (bp.mono (Uh HB1).size)
 have HP:=Hj (And.intro sp (And.intro hbp (Uh HB1).size))
 have HX:=Hj hbp
 clear bp hbp sp
 refine (Uh HRp _).mono ?_
 rintro _ w3 ⟨rfl,b3⟩
 have sp:=(Uh HP).1.keep b3
 have hbp:=(Uh HP).2.1.trans (b3.mono (Uh HP).2.1.size)
 have HP3:=Hj (And.intro sp (And.intro hbp (Uh HP).2.2))
 have HX:=Hj hbp
 have e0:=sp.c0
 have e1:=sp.c1
 have e2:=sp.c2
 have e3:=sp.c3
 have e4:=sp.c4
 have e5:=sp.c5
 have e6:=sp.c6
 clear b3 sp hbp
 go_wp2_with fail
 refine (Uh HW _).mono ?_
 rintro _ w4 ⟨an,nn,cn,ad,nd,cd,rfl,sn,sd,b4⟩
 have hb4:=(Uh HP3).2.1.trans (b4.mono (Uh HP3).2.1.size)
 have i0:=((Uh HP3).1.keep b4).c0
 have HX:=Hj hb4
 have hne4:w1.heap.size ≠ w.heap.size:=by have h1:=(Uh HO).1.lt; have h2:=(Uh HP3).2.2; omega
 have HKL:=Hj (fun (W:World) (hb:Below w4.heap.size w4 W) => Uh HKLO an ad nn cn nd cd W (sn.below hb) (sd.below hb) (((Uh HT).below hb4).below hb))
 have H4:=Hj hb4
 clear sn sd b4 hb4 e0 e1 e2 e3 e4 e5 e6
 go_wp2_with fail
 refine (Uh HKL _ (Below.refl _ _)).mono ?_
 rintro _ w8 ⟨v8,rfl,aN,mN,cN,aD,mD,cD,rfl,sN,sD,nN,nD,b8⟩
 unfold ratV
 have hb8:=(Uh H4).trans (b8.mono (Uh H4).size)
 have hO8:=(Uh HO).1.keep hb8
 obtain ⟨j0,u0⟩:=hO8.cells 0 (by decide)
 obtain ⟨j1,u1⟩:=hO8.cells 1 (by decide)
 obtain ⟨j2,u2⟩:=hO8.cells 2 (by decide)
 have v0:=hO8.fz 0 (by decide)
 have v1:=hO8.fz 1 (by decide)
 have v2:=hO8.fz 2 (by decide)
 have hzc:=(Uh H4).size
 have hzo:=(Uh HO).1.lt
 have HR:=Hj (And.intro (three_set w8 w.heap.size (.bool gg) (.slice aN mN cN) (.slice aD mD cD) hO8.cells) (ret_Q (w:=w) (gy:=gg) hO8 sN sD (fun p hp => by have:=nN p hp; omega) (fun p hp => by have:=nD p hp; omega) ((Uh HO).2.trans (hb8.mono (Uh HO).2.size)) (Nat.le_refl _)))
 clear hO8 sN sD nN nD b8 hb8 hzc hzo
 go_wp2_with fail
 obtain ⟨⟨t0_,t1_,t2_,cc_⟩,hR⟩:=Uh HR
 generalize ((w8.setCell ⟨w.heap.size,0,none⟩ (.bool gg)).setCell ⟨w.heap.size,1,none⟩ (.slice aN mN cN)).setCell ⟨w.heap.size,2,none⟩ (.slice aD mD cD) = wf at *
 refine bodyPost_ret (by simp [results,Tryz.results8,go_sem,t0_,t1_,t2_]; try rfl) rfl ?_
 exact ⟨_,rfl,hR⟩
def WfF (g:Bool) (N D:Nat):(Bool × List Nat × List Nat) × Int:=if 2048 < (limbs N).length ∨ 2048 < (limbs D).length then ((false,[],[]),2) else lowF g N D
theorem dig_by {s:ByteArray} {i:Nat} (h1:48 ≤ byA s i) (h2:byA s i ≤ 57):dig s i = byA s i - 48:=by
 show digitN (byA s i) = _
 unfold digitN
 generalize byA s i = c at *
 repeat (first | split | omega)
theorem num_pw {s:ByteArray}:∀ {k:Nat},(∀ q,q < k → 48 ≤ byA s q ∧ byA s q ≤ 57) → numP s 10 k = pwB s k
 | 0,_ => rfl
 | k + 1,h => by
  have h1:=num_pw (s:=s) (k:=k) (fun q hq => h q (by omega))
  obtain ⟨g1,g2⟩:=h k (by omega)
  show numS s 10 0 (k + 1) = 10 * pwB s k + (byA s k - 48)
  unfold numS
  rw [show numS s 10 0 k = numP s 10 k from rfl,h1,Nat.zero_add,dig_by g1 g2]
  omega
theorem pa_of {s:ByteArray} (h0:0 < s.size) (hs:s.size ≤ 65536) (hd:∀ q,q < s.size → 48 ≤ byA s q ∧ byA s q ≤ 57):PaIs s 10 (fitL (pwB s s.size)).1 0 (fitL (pwB s s.size)).2:=by
 refine .read _ _ hs h0 ⟨by decide,by decide⟩ (fun j hj => ?_) ?_
 ·obtain ⟨g1,g2⟩:=hd j hj
  rw [dig_by g1 g2]
  show byA s j - 48 < 10
  omega
 ·rw [show ((10:Int).toNat) = 10 from rfl,num_pw hd]
theorem limbs_nz {N:Nat} (h:N ≠ 0):limbs N ≠ []:=fun e => by
 have h1:=limbs_v N
 rw [e] at h1
 simp [val] at h1
 omega
theorem small_not_big {a b:Nat} (h:a ≤ b) (k:¬ 2048 < (limbs b).length):bigN a = false:=by
 have:=limbs_len_le h
 unfold bigN
 simp
 omega
theorem low_same {g:Bool} {N D:Nat} (hD:0 < D) (hN:¬ 2048 < (limbs N).length) (hD2:¬ 2048 < (limbs D).length):lowF g N D = ((g && decide (limbs N ≠ []),limbs (N / Nat.gcd N D),limbs (D / Nat.gcd N D)),0):=by
 unfold lowF
 by_cases h:N = 0
 ·subst h
  rw [if_pos rfl,Nat.gcd_zero_left,Nat.zero_div,Nat.div_self hD]
  have e:limbs 0 = []:=rfl
  rw [e,limbs_1]
  simp
 ·rw [if_neg h,small_not_big (Nat.div_le_self _ _) hN,small_not_big (Nat.div_le_self _ _) hD2]
  have:=limbs_nz h
  simp [this]
theorem wf_same {g:Bool} {N D:Nat} (hD:0 < D) (hN:¬ 2048 < (limbs N).length) (hD2:¬ 2048 < (limbs D).length):WfF g N D = ((g && decide (limbs N ≠ []),limbs (N / Nat.gcd N D),limbs (D / Nat.gcd N D)),0):=by
 unfold WfF
 rw [if_neg (by omega),low_same hD hN hD2]
theorem wf_big {g:Bool} {N D:Nat} (h:2048 < (limbs N).length ∨ 2048 < (limbs D).length):WfF g N D = ((false,[],[]),2):=if_pos h
theorem first_is {x:ByteArray} (h:0 < x.size):((x.extract 0 1).toList == [45]) = decide (byA x 0 = 45):=by
 rw [Lib.extract_toList]
 cases x with
 | mk a =>
  cases a with
  | mk l =>
   cases l with
   | nil => simp [ByteArray.size] at h
   | cons c r =>
    have e:byA ⟨⟨c :: r⟩⟩ 0 = c.toNat:=rfl
    rw [e]
    simp
    by_cases h2:c = 45
    ·subst h2; rfl
    ·have h3:¬ c.toNat = 45:=fun k => h2 (UInt8.toNat_inj.1 k)
     simp [h2,h3]
theorem kd_two {s:ByteArray} {i:Nat} (h:i < s.size):kdA s i = 2 ↔ byA s i = 45:=by
 unfold kdA
 rw [if_neg (by omega)]
 unfold kdN
 constructor
 ·intro k
  revert k
  repeat (first | split | (intro k; omega))
 ·intro k
  rw [k]
  rfl
theorem trim_head {s:ByteArray} {g:Bool} {i e:Nat} (h:Hd s g i) (hs:s.size ≤ 65536) (hi:i < e) (he:e ≤ s.size) (W:World) :
  Calls Tryz.prog 65 #[.string (s.extract 0 e),.string ⟨#[45]⟩] W fun r w' => r = .returned (.string (s.extract i e)) ∧ w' = W:=by
 have hz:(s.extract 0 e).size = e:=by rw [ByteArray.size_extract]; omega
 have hb:byA (s.extract 0 e) 0 = byA s 0:=by rw [byA_ext (by omega) he]
 have hf:=first_is (x:=s.extract 0 e) (by omega)
 rw [hb] at hf
 cases g
 ·obtain ⟨rfl,h0⟩:=h.no rfl
  have hn:¬ byA s 0 = 45:=fun c => h0 ((kd_two (by omega)).2 c)
  exact trimPrefix_no (s.extract 0 e) W (by rw [hf]; simp [hn])
 ·obtain ⟨rfl,h0⟩:=h.yes rfl
  have hn:byA s 0 = 45:=(kd_two (by omega)).1 h0
  have K:=trimPrefix_yes (s.extract 0 e) W (by omega) (by omega) (by rw [hf]; simp [hn])
  have ee:(s.extract 0 e).extract 1 (s.extract 0 e).size = s.extract 1 e:=by
   rw [hz,ByteArray.extract_extract]
   simp
  rw [ee] at K
  exact K
theorem rparse_bad {s:ByteArray} {b:Nat} (h:TkBad s b) (hs:s.size ≤ 65536) (w:World) (hTB:TabBh w) :
  Calls Tryz.prog 8 #[.string s] w fun e w' => PsPost w w' false [] [] (b:Nat) 5 e :=
 parse_bad s b w hs hTB fun W hW => takeApart_bad s s W hs hW b h.le h.now h.ahead
theorem mayL_fit {N:Nat} (h:¬ 2048 < (limbs N).length):MayL (limbs N) = true:=MayL.mk (limbs_norm _) (by omega)
theorem fit_two {N:Nat} (h:2048 < (limbs N).length):fitL N = ([],2):=fitL_big h
theorem ps_eq {w w':World} {r:(Bool × List Nat × List Nat) × Int} {g:Bool} {x y:List Nat} {a er:Int} {e:Ending} (h:r = ((g,x,y),er)) (k:PsPost w w' g x y a er e):PsPost w w' r.1.1 r.1.2.1 r.1.2.2 a r.2 e:=by
 subst h
 exact k
theorem rparse_dn (g:Bool) (s D PL PW:ByteArray) (LT Q:Nat) (P:Int) (w:World) (hs:s.size ≤ 65536) (hT:Tab64 w) (hTB:TabBh w) (hP:-4096 ≤ P ∧ P ≤ 4096) (hQ:P - (PL.size:Int) = -(Q:Int)) (hQ0:0 < Q) (hQ1:Q ≤ 1048576)
  (hTk:∀ W,TabBh W → Calls Tryz.prog 31 #[.string s] W fun e w' => e = .returned (.tuple #[.agg #[.bool g,.string D,.int .i64 ((0:Nat):Int),.string ⟨#[]⟩,.string PL,.int .i64 (LT:Nat),.string PW],.int .i64 0,.bool true]) ∧ Below W.heap.size W w')
  (hRp:∀ W,Calls Tryz.prog 33 #[.string PW] W fun e w' => e = .returned (.tuple #[.int .i64 P,.bool true]) ∧ Below W.heap.size W w')
  (h0:0 < (D ++ PL).size) (hz:(D ++ PL).size ≤ 65536) (hd:∀ q,q < (D ++ PL).size → 48 ≤ byA (D ++ PL) q ∧ byA (D ++ PL) q ≤ 57) :
  Calls Tryz.prog 8 #[.string s] w fun e w' => PsPost w w' (WfF g (pwB (D ++ PL) (D ++ PL).size) (10 ^ Q)).1.1 (WfF g (pwB (D ++ PL) (D ++ PL).size) (10 ^ Q)).1.2.1 (WfF g (pwB (D ++ PL) (D ++ PL).size) (10 ^ Q)).1.2.2 0 (WfF g (pwB (D ++ PL) (D ++ PL).size) (10 ^ Q)).2 e:=by
 have hpa:=pa_of h0 hz hd
 obtain ⟨V,hV⟩:∃ V,pwB (D ++ PL) (D ++ PL).size = V:=⟨_,rfl⟩
 rw [hV] at hpa ⊢
 have hten:0 < 10 ^ Q:=Nat.pow_pos (by decide)
 by_cases hN:2048 < (limbs V).length
 ·rw [fit_two hN] at hpa
  rw [wf_big (.inl hN)]
  exact parse_zE g s D ⟨#[]⟩ PL PW 0 LT w hs hT hTB hTk rfl P hRp [] [] 2 (by decide) fun W => written_bad g D ⟨#[]⟩ PL PW 0 LT P _ W hP 2 hz hpa (by decide)
 ·rw [fitL_ok hN] at hpa
  have KW:=fun W => written_dn g D ⟨#[]⟩ PL PW 0 LT P (limbs V) W hP Q hpa rfl hQ hQ0 hQ1
  by_cases hD:2048 < (limbs (10 ^ Q)).length
  ·rw [fit_two hD] at KW
   rw [wf_big (.inr hD)]
   exact parse_zE g s D ⟨#[]⟩ PL PW 0 LT w hs hT hTB hTk rfl P hRp (limbs V) [] 2 (by decide) KW
  ·rw [fitL_ok hD] at KW
   have K:=parse_zF g s D ⟨#[]⟩ PL PW 0 LT w hs hT hTB hTk rfl P hRp (limbs V) (limbs (10 ^ Q)) (limbs_ok _) (limbs_ok _) (mayL_fit hN) (mayL_fit hD) (limbs_nz (by omega)) KW
   rw [limbs_v,limbs_v] at K
   exact K.mono fun e w' h => ps_eq (wf_same hten hN hD) h
theorem rparse_up (g:Bool) (s D PL PW:ByteArray) (LT Q:Nat) (P:Int) (w:World) (hs:s.size ≤ 65536) (hT:Tab64 w) (hTB:TabBh w) (hP:-4096 ≤ P ∧ P ≤ 4096) (hQ:P - (PL.size:Int) = (Q:Int)) (hQ1:Q ≤ 4096)
  (hTk:∀ W,TabBh W → Calls Tryz.prog 31 #[.string s] W fun e w' => e = .returned (.tuple #[.agg #[.bool g,.string D,.int .i64 ((0:Nat):Int),.string ⟨#[]⟩,.string PL,.int .i64 (LT:Nat),.string PW],.int .i64 0,.bool true]) ∧ Below W.heap.size W w')
  (hRp:∀ W,Calls Tryz.prog 33 #[.string PW] W fun e w' => e = .returned (.tuple #[.int .i64 P,.bool true]) ∧ Below W.heap.size W w')
  (h0:0 < (D ++ PL).size) (hz:(D ++ PL).size ≤ 65536) (hd:∀ q,q < (D ++ PL).size → 48 ≤ byA (D ++ PL) q ∧ byA (D ++ PL) q ≤ 57) :
  Calls Tryz.prog 8 #[.string s] w fun e w' => PsPost w w' (WfF g (pwB (D ++ PL) (D ++ PL).size * 10 ^ Q) 1).1.1 (WfF g (pwB (D ++ PL) (D ++ PL).size * 10 ^ Q) 1).1.2.1 (WfF g (pwB (D ++ PL) (D ++ PL).size * 10 ^ Q) 1).1.2.2 0 (WfF g (pwB (D ++ PL) (D ++ PL).size * 10 ^ Q) 1).2 e:=by
 have hpa:=pa_of h0 hz hd
 obtain ⟨V,hV⟩:∃ V,pwB (D ++ PL) (D ++ PL).size = V:=⟨_,rfl⟩
 rw [hV] at hpa ⊢
 have hten:0 < 10 ^ Q:=Nat.pow_pos (by decide)
 have hVN:V ≤ V * 10 ^ Q:=Nat.le_mul_of_pos_right _ hten
 by_cases hN:2048 < (limbs V).length
 ·rw [fit_two hN] at hpa
  rw [wf_big (.inl (Nat.lt_of_lt_of_le hN (limbs_len_le hVN)))]
  exact parse_zE g s D ⟨#[]⟩ PL PW 0 LT w hs hT hTB hTk rfl P hRp [] [] 2 (by decide) fun W => written_bad g D ⟨#[]⟩ PL PW 0 LT P _ W hP 2 hz hpa (by decide)
 ·rw [fitL_ok hN] at hpa
  have KW:=fun W => written_up g D ⟨#[]⟩ PL PW 0 LT P (limbs V) W hP Q (limbs_ok _) (mayL_fit hN) hpa rfl hQ hQ1
  rw [limbs_v] at KW
  by_cases hD:2048 < (limbs (V * 10 ^ Q)).length
  ·rw [fit_two hD] at KW
   rw [wf_big (.inl hD)]
   exact parse_zE g s D ⟨#[]⟩ PL PW 0 LT w hs hT hTB hTk rfl P hRp [] [1] 2 (by decide) KW
  ·rw [fitL_ok hD] at KW
   have K:=parse_zF g s D ⟨#[]⟩ PL PW 0 LT w hs hT hTB hTk rfl P hRp (limbs (V * 10 ^ Q)) [1] (limbs_ok _) (by rw [← limbs_1]; exact limbs_ok _) (mayL_fit hD) (by decide) (by decide) KW
   rw [limbs_v,show val [1] = 1 from by simp [val]] at K
   exact K.mono fun e w' h => ps_eq (wf_same (by decide) hD (by rw [limbs_1]; decide)) h
end Go.Proofs.YtmnlhnmlgncedaaGreatDoor
