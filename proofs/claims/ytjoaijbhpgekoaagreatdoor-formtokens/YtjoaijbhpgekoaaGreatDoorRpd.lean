/- Rpd -/
import Derived.Test.YtjoaijbhpgekoaaGreatDoorRpb
import Derived.Test.YtjoaijbhpgekoaaGreatDoorWi5
import Derived.Test.YtjoaijbhpgekoaaGreatDoorRu3
namespace Go.Proofs.YtjoaijbhpgekoaaGreatDoor
open Go.RowKit Go.Deep
set_option linter.unusedVariables false
def PsPost (w w':World) (g:Bool) (x y:List Nat) (at_ er:Int) (e:Ending):Prop:=∃ v,e = .returned (.tuple #[v,.int .i64 at_,.int .i64 er]) ∧ NewR w w' g x y v
theorem str_nil {r:ByteArray} (h:r.size = 0):(r.toList == []) = true:=by
 rw [Lib.toList_data]
 have h1:r.data.toList.length = r.size:=Array.length_toList
 have:r.data.toList = []:=List.length_eq_zero_iff.1 (h1.trans h)
 simpa using this
theorem str_some {r:ByteArray} (h:¬ r.size = 0):(r.toList == []) = false:=by
 rw [Lib.toList_data]
 have h1:r.data.toList.length = r.size:=Array.length_toList
 have:r.data.toList ≠ []:=fun e => by
  rw [e] at h1
  simp at h1
  omega
 simpa using this

set_option maxRecDepth 100000 in
set_option maxHeartbeats 32000000 in
theorem parse_zE (g:Bool) (s D U PL PW:ByteArray) (SL LT:Nat) (w:World) (hs:s.size ≤ 65536) (hT:Tab64 w) (hTB:TabBh w)
  (hTk:∀ W,TabBh W → Calls Tryz.prog 36 #[.string s] W fun e w' => e = .returned (.tuple #[.agg #[.bool g,.string D,.int .i64 (SL:Nat),.string U,.string PL,.int .i64 (LT:Nat),.string PW],.int .i64 0,.bool true]) ∧ Below W.heap.size W w') (h0:SL = 0)
  (P:Int) (hRp:∀ W,Calls Tryz.prog 37 #[.string PW] W fun e w' => e = .returned (.tuple #[.int .i64 P,.bool true]) ∧ Below W.heap.size W w')
  (x y:List Nat) (er:Int) (he:er ≠ 0) (hWr:∀ W,Calls Tryz.prog 38 #[.agg #[.bool g,.string D,.int .i64 (SL:Nat),.string U,.string PL,.int .i64 (LT:Nat),.string PW],.int .i64 P] W fun e w' => WuPost W x y er e w') :
  Calls Tryz.prog 27 #[.string s] w fun e w' => PsPost w w' false [] [] 0 er e:=by
 obtain ⟨wo,hwo⟩:∃ z,w.alloc (.cells #[.bool false,.slice none 0 0,.slice none 0 0] 39) = z:=⟨_,rfl⟩
 have hbo:Below w.heap.size w wo:=by rw [← hwo]; exact bAl
 have hO:=Out.made w
 rw [hwo] at hO
 have HO:=Hj (And.intro hO hbo)
 have hs':¬ (65536:Int) < (s.size:Int):=by omega
 have HTk:=Hj (hTk wo (hTB.below hbo))
 have HT:=Hj (hT.below hbo)
 have tz:¬ (0:Int) < (SL:Int):=by omega
 have HRp:=Hj hRp
 have HW:=Hj hWr
 clear hO hbo hTk hT hTB hs h0 hRp hWr
 have te:(er != 0) = true:=by simpa using he
 clear he
 go_enter Tryz.func27,Tryz.ntmps27
 go_wp2_with fail
 refine (Uh HTk).mono ?_
 rintro _ w1 ⟨rfl,b1⟩
 have HB1:=Hj b1
 clear b1 HTk
 go_wp2_with fail
 have bp:Below w1.heap.size w1 (w1.alloc (.cells #[.bool g,.string D,.int .i64 (SL:Nat),.string U,.string PL,.int .i64 (LT:Nat),.string PW] 73)):=bAl
 have sp:=Sv.made w1 (.bool g) (.string D) (.int .i64 (SL:Nat)) (.string U) (.string PL) (.int .i64 (LT:Nat)) (.string PW) 73
 generalize w1.alloc (.cells #[.bool g,.string D,.int .i64 (SL:Nat),.string U,.string PL,.int .i64 (LT:Nat),.string PW] 73) = wp at *
 have hbp:=(Uh HB1).trans (bp.mono (Uh HB1).size)
 have HP:=Hj (And.intro sp (And.intro hbp (Uh HB1).size))
 have HX:=Hj hbp
 clear bp hbp sp
 refine (Uh HRp _).mono ?_
 rintro _ w3 ⟨rfl,b3⟩
 have sp:=(Uh HP).1.keep b3
 have hbp:=(Uh HP).2.1.trans (b3.mono (Uh HP).2.1.size)
 have HP3:=Hj (And.intro sp (And.intro hbp (Uh HP).2.2))
 have HX:=Hj hbp
 have e0:=sp.c0
 have e1:=sp.c1
 have e2:=sp.c2
 have e3:=sp.c3
 have e4:=sp.c4
 have e5:=sp.c5
 have e6:=sp.c6
 clear b3 sp hbp
 go_wp2_with fail
 refine (Uh HW _).mono ?_
 rintro _ w4 ⟨an,nn,cn,ad,nd,cd,rfl,sn,sd,b4⟩
 have hb4:=(Uh HP3).2.1.trans (b4.mono (Uh HP3).2.1.size)
 have i0:=((Uh HP3).1.keep b4).c0
 have HX:=Hj hb4
 have hne4:w1.heap.size ≠ w.heap.size:=by have h1:=(Uh HO).1.lt; have h2:=(Uh HP3).2.2; omega
 clear sn sd b4 hb4 e0 e1 e2 e3 e4 e5 e6
 have hO8:=(Uh HO).1.keep (Uh HX)
 obtain ⟨j0,u0⟩:=hO8.cells 0 (by decide)
 obtain ⟨j1,u1⟩:=hO8.cells 1 (by decide)
 obtain ⟨j2,u2⟩:=hO8.cells 2 (by decide)
 have v0:=hO8.fz 0 (by decide)
 have v1:=hO8.fz 1 (by decide)
 have v2:=hO8.fz 2 (by decide)
 have HR:=Hj (And.intro (three_set w4 w.heap.size (.bool false) (.slice none 0 0) (.slice none 0 0) hO8.cells) (ret_Q (w:=w) (gy:=false) hO8 (sl_nil _) (sl_nil _) (fun p hp => by cases hp) (fun p hp => by cases hp) ((Uh HO).2.trans ((Uh HX).mono (Uh HO).2.size)) (Nat.le_refl _)))
 clear hO8
 go_wp2_with fail
 obtain ⟨⟨t0_,t1_,t2_,cc_⟩,hR⟩:=Uh HR
 generalize ((w4.setCell ⟨w.heap.size,0,none⟩ (.bool false)).setCell ⟨w.heap.size,1,none⟩ (.slice none 0 0)).setCell ⟨w.heap.size,2,none⟩ (.slice none 0 0) = wf at *
 refine bodyPost_ret (by simp [results,Tryz.results27,go_sem,t0_,t1_,t2_]; try rfl) rfl ?_
 exact ⟨_,rfl,hR⟩
set_option maxRecDepth 100000 in
set_option maxHeartbeats 32000000 in
theorem parse_zF (g:Bool) (s D U PL PW:ByteArray) (SL LT:Nat) (w:World) (hs:s.size ≤ 65536) (hT:Tab64 w) (hTB:TabBh w)
  (hTk:∀ W,TabBh W → Calls Tryz.prog 36 #[.string s] W fun e w' => e = .returned (.tuple #[.agg #[.bool g,.string D,.int .i64 (SL:Nat),.string U,.string PL,.int .i64 (LT:Nat),.string PW],.int .i64 0,.bool true]) ∧ Below W.heap.size W w') (h0:SL = 0)
  (P:Int) (hRp:∀ W,Calls Tryz.prog 37 #[.string PW] W fun e w' => e = .returned (.tuple #[.int .i64 P,.bool true]) ∧ Below W.heap.size W w')
  (x y:List Nat) (ox:Ok x) (oy:Ok y) (kx:MayL x = true) (ky:MayL y = true) (ey:y ≠ []) (hWr:∀ W,Calls Tryz.prog 38 #[.agg #[.bool g,.string D,.int .i64 (SL:Nat),.string U,.string PL,.int .i64 (LT:Nat),.string PW],.int .i64 P] W fun e w' => WuPost W x y 0 e w') :
  Calls Tryz.prog 27 #[.string s] w fun e w' => PsPost w w' (g && decide (x ≠ [])) (limbs (val x / Nat.gcd (val x) (val y))) (limbs (val y / Nat.gcd (val x) (val y))) 0 0 e:=by
 obtain ⟨wo,hwo⟩:∃ z,w.alloc (.cells #[.bool false,.slice none 0 0,.slice none 0 0] 39) = z:=⟨_,rfl⟩
 have hbo:Below w.heap.size w wo:=by rw [← hwo]; exact bAl
 have hO:=Out.made w
 rw [hwo] at hO
 have HO:=Hj (And.intro hO hbo)
 have hs':¬ (65536:Int) < (s.size:Int):=by omega
 have HTk:=Hj (hTk wo (hTB.below hbo))
 have HT:=Hj (hT.below hbo)
 have tz:¬ (0:Int) < (SL:Int):=by omega
 have HRp:=Hj hRp
 have HW:=Hj hWr
 obtain ⟨rn,hrn⟩:∃ z,limbs (val x / Nat.gcd (val x) (val y)) = z:=⟨_,rfl⟩
 obtain ⟨rd,hrd⟩:∃ z,limbs (val y / Nat.gcd (val x) (val y)) = z:=⟨_,rfl⟩
 obtain ⟨gg,hgg⟩:∃ z,(g && decide (x ≠ [])) = z:=⟨_,rfl⟩
 have HKLO:=Hj (fun (an ad:Option Addr) (nn cn nd cd:Nat) (W:World) (h1:Sl W an nn cn x) (h2:Sl W ad nd cd y) (h3:Tab64 W) => lowest_any g an ad nn cn nd cd x y W h1 h2 ox oy kx ky ey h3)
 rw [hrn,hrd,hgg] at HKLO
 rw [hrn,hrd,hgg]
 clear hrn hrd hgg ox oy kx ky ey
 clear hO hbo hTk hT hTB hs h0 hRp hWr
 go_enter Tryz.func27,Tryz.ntmps27
 go_wp2_with fail
 refine (Uh HTk).mono ?_
 rintro _ w1 ⟨rfl,b1⟩
 have HB1:=Hj b1
 clear b1 HTk
 go_wp2_with fail
 have bp:Below w1.heap.size w1 (w1.alloc (.cells #[.bool g,.string D,.int .i64 (SL:Nat),.string U,.string PL,.int .i64 (LT:Nat),.string PW] 73)):=bAl
 have sp:=Sv.made w1 (.bool g) (.string D) (.int .i64 (SL:Nat)) (.string U) (.string PL) (.int .i64 (LT:Nat)) (.string PW) 73
 generalize w1.alloc (.cells #[.bool g,.string D,.int .i64 (SL:Nat),.string U,.string PL,.int .i64 (LT:Nat),.string PW] 73) = wp at *
 have hbp:=(Uh HB1).trans (bp.mono (Uh HB1).size)
 have HP:=Hj (And.intro sp (And.intro hbp (Uh HB1).size))
 have HX:=Hj hbp
 clear bp hbp sp
 refine (Uh HRp _).mono ?_
 rintro _ w3 ⟨rfl,b3⟩
 have sp:=(Uh HP).1.keep b3
 have hbp:=(Uh HP).2.1.trans (b3.mono (Uh HP).2.1.size)
 have HP3:=Hj (And.intro sp (And.intro hbp (Uh HP).2.2))
 have HX:=Hj hbp
 have e0:=sp.c0
 have e1:=sp.c1
 have e2:=sp.c2
 have e3:=sp.c3
 have e4:=sp.c4
 have e5:=sp.c5
 have e6:=sp.c6
 clear b3 sp hbp
 go_wp2_with fail
 refine (Uh HW _).mono ?_
 rintro _ w4 ⟨an,nn,cn,ad,nd,cd,rfl,sn,sd,b4⟩
 have hb4:=(Uh HP3).2.1.trans (b4.mono (Uh HP3).2.1.size)
 have i0:=((Uh HP3).1.keep b4).c0
 have HX:=Hj hb4
 have hne4:w1.heap.size ≠ w.heap.size:=by have h1:=(Uh HO).1.lt; have h2:=(Uh HP3).2.2; omega
 have HKL:=Hj (fun (W:World) (hb:Below w4.heap.size w4 W) => Uh HKLO an ad nn cn nd cd W (sn.below hb) (sd.below hb) (((Uh HT).below hb4).below hb))
 have H4:=Hj hb4
 clear sn sd b4 hb4 e0 e1 e2 e3 e4 e5 e6
 go_wp2_with fail
 refine (Uh HKL _ (Below.refl _ _)).mono ?_
 rintro _ w8 ⟨v8,rfl,aN,mN,cN,aD,mD,cD,rfl,sN,sD,nN,nD,b8⟩
 unfold ratV
 have hb8:=(Uh H4).trans (b8.mono (Uh H4).size)
 have hO8:=(Uh HO).1.keep hb8
 obtain ⟨j0,u0⟩:=hO8.cells 0 (by decide)
 obtain ⟨j1,u1⟩:=hO8.cells 1 (by decide)
 obtain ⟨j2,u2⟩:=hO8.cells 2 (by decide)
 have v0:=hO8.fz 0 (by decide)
 have v1:=hO8.fz 1 (by decide)
 have v2:=hO8.fz 2 (by decide)
 have hzc:=(Uh H4).size
 have hzo:=(Uh HO).1.lt
 have HR:=Hj (And.intro (three_set w8 w.heap.size (.bool gg) (.slice aN mN cN) (.slice aD mD cD) hO8.cells) (ret_Q (w:=w) (gy:=gg) hO8 sN sD (fun p hp => by have:=nN p hp; omega) (fun p hp => by have:=nD p hp; omega) ((Uh HO).2.trans (hb8.mono (Uh HO).2.size)) (Nat.le_refl _)))
 clear hO8 sN sD nN nD b8 hb8 hzc hzo
 go_wp2_with fail
 obtain ⟨⟨t0_,t1_,t2_,cc_⟩,hR⟩:=Uh HR
 generalize ((w8.setCell ⟨w.heap.size,0,none⟩ (.bool gg)).setCell ⟨w.heap.size,1,none⟩ (.slice aN mN cN)).setCell ⟨w.heap.size,2,none⟩ (.slice aD mD cD) = wf at *
 refine bodyPost_ret (by simp [results,Tryz.results27,go_sem,t0_,t1_,t2_]; try rfl) rfl ?_
 exact ⟨_,rfl,hR⟩
set_option maxRecDepth 100000 in
set_option maxHeartbeats 32000000 in
theorem parse_fC (g:Bool) (s D U PL PW:ByteArray) (SL LT:Nat) (w:World) (hs:s.size ≤ 65536) (hT:Tab64 w) (hTB:TabBh w)
  (hTk:∀ W,TabBh W → Calls Tryz.prog 36 #[.string s] W fun e w' => e = .returned (.tuple #[.agg #[.bool g,.string D,.int .i64 (SL:Nat),.string U,.string PL,.int .i64 (LT:Nat),.string PW],.int .i64 0,.bool true]) ∧ Below W.heap.size W w') (h0:0 < SL) (TR:ByteArray) (hUs:U.size ≤ 65536) (hTR:(⟨(Lib.trimS U.data.toList [48]).toArray⟩:ByteArray) = TR) (hTz:TR.size = 0) :
  Calls Tryz.prog 27 #[.string s] w fun e w' => PsPost w w' false [] [] (SL:Nat) 3 e:=by
 obtain ⟨wo,hwo⟩:∃ z,w.alloc (.cells #[.bool false,.slice none 0 0,.slice none 0 0] 39) = z:=⟨_,rfl⟩
 have hbo:Below w.heap.size w wo:=by rw [← hwo]; exact bAl
 have hO:=Out.made w
 rw [hwo] at hO
 have HO:=Hj (And.intro hO hbo)
 have hs':¬ (65536:Int) < (s.size:Int):=by omega
 have HTk:=Hj (hTk wo (hTB.below hbo))
 have HT:=Hj (hT.below hbo)
 have tz:(0:Int) < (SL:Int):=by omega
 have HTr:=Hj (fun (W:World) => trim_0 U W hUs)
 have HTR:=Hj hTR
 have tr:=str_nil hTz
 clear hO hbo hTk hT hTB hs h0 hUs hTR hTz
 go_enter Tryz.func27,Tryz.ntmps27
 go_wp2_with fail
 refine (Uh HTk).mono ?_
 rintro _ w1 ⟨rfl,b1⟩
 have HB1:=Hj b1
 clear b1 HTk
 go_wp2_with fail
 have bp:Below w1.heap.size w1 (w1.alloc (.cells #[.bool g,.string D,.int .i64 (SL:Nat),.string U,.string PL,.int .i64 (LT:Nat),.string PW] 73)):=bAl
 have sp:=Sv.made w1 (.bool g) (.string D) (.int .i64 (SL:Nat)) (.string U) (.string PL) (.int .i64 (LT:Nat)) (.string PW) 73
 generalize w1.alloc (.cells #[.bool g,.string D,.int .i64 (SL:Nat),.string U,.string PL,.int .i64 (LT:Nat),.string PW] 73) = wp at *
 have hbp:=(Uh HB1).trans (bp.mono (Uh HB1).size)
 have HP:=Hj (And.intro sp (And.intro hbp (Uh HB1).size))
 have HX:=Hj hbp
 clear bp hbp sp
 have KTr:=Uh HTr wp
 rw [Uh HTR] at KTr
 refine KTr.mono ?_
 clear KTr
 rintro _ w2 ⟨rfl,b2⟩
 have sp:=(Uh HP).1.keep b2
 have hbp:=(Uh HP).2.1.trans (b2.mono (Uh HP).2.1.size)
 have HP:=Hj (And.intro sp (And.intro hbp (Uh HP).2.2))
 have HX:=Hj hbp
 have e6:=sp.c6
 have e2:=sp.c2
 clear b2 sp hbp
 have hneC:w1.heap.size ≠ w.heap.size:=by have h1:=(Uh HO).1.lt; have h2:=(Uh HP).2.2; omega
 have hO8:=(Uh HO).1.keep (Uh HX)
 obtain ⟨j0,u0⟩:=hO8.cells 0 (by decide)
 obtain ⟨j1,u1⟩:=hO8.cells 1 (by decide)
 obtain ⟨j2,u2⟩:=hO8.cells 2 (by decide)
 have v0:=hO8.fz 0 (by decide)
 have v1:=hO8.fz 1 (by decide)
 have v2:=hO8.fz 2 (by decide)
 have HR:=Hj (And.intro (three_set w2 w.heap.size (.bool false) (.slice none 0 0) (.slice none 0 0) hO8.cells) (ret_Q (w:=w) (gy:=false) hO8 (sl_nil _) (sl_nil _) (fun p hp => by cases hp) (fun p hp => by cases hp) ((Uh HO).2.trans ((Uh HX).mono (Uh HO).2.size)) (Nat.le_refl _)))
 clear hO8
 go_wp2_with fail
 go_region
 all_goals
  (try go_wp2_with fail)
  obtain ⟨⟨t0_,t1_,t2_,cc_⟩,hR⟩:=Uh HR
  generalize ((w2.setCell ⟨w.heap.size,0,none⟩ (.bool false)).setCell ⟨w.heap.size,1,none⟩ (.slice none 0 0)).setCell ⟨w.heap.size,2,none⟩ (.slice none 0 0) = wf at *
  refine bodyPost_ret (by simp [results,Tryz.results27,go_sem,t0_,t1_,t2_]; try rfl) rfl ?_
  exact ⟨_,rfl,(by first | exact hR | exact hR.drewQ)⟩
set_option maxRecDepth 100000 in
set_option maxHeartbeats 32000000 in
theorem parse_fE (g:Bool) (s D U PL PW:ByteArray) (SL LT:Nat) (w:World) (hs:s.size ≤ 65536) (hT:Tab64 w) (hTB:TabBh w)
  (hTk:∀ W,TabBh W → Calls Tryz.prog 36 #[.string s] W fun e w' => e = .returned (.tuple #[.agg #[.bool g,.string D,.int .i64 (SL:Nat),.string U,.string PL,.int .i64 (LT:Nat),.string PW],.int .i64 0,.bool true]) ∧ Below W.heap.size W w') (h0:0 < SL) (TR:ByteArray) (hUs:U.size ≤ 65536) (hTR:(⟨(Lib.trimS U.data.toList [48]).toArray⟩:ByteArray) = TR) (hTz:¬ TR.size = 0)
  (P:Int) (hRp:∀ W,Calls Tryz.prog 37 #[.string PW] W fun e w' => e = .returned (.tuple #[.int .i64 P,.bool true]) ∧ Below W.heap.size W w')
  (x y:List Nat) (er:Int) (he:er ≠ 0) (hWr:∀ W,Calls Tryz.prog 38 #[.agg #[.bool g,.string D,.int .i64 (SL:Nat),.string U,.string PL,.int .i64 (LT:Nat),.string PW],.int .i64 P] W fun e w' => WuPost W x y er e w') :
  Calls Tryz.prog 27 #[.string s] w fun e w' => PsPost w w' false [] [] 0 er e:=by
 obtain ⟨wo,hwo⟩:∃ z,w.alloc (.cells #[.bool false,.slice none 0 0,.slice none 0 0] 39) = z:=⟨_,rfl⟩
 have hbo:Below w.heap.size w wo:=by rw [← hwo]; exact bAl
 have hO:=Out.made w
 rw [hwo] at hO
 have HO:=Hj (And.intro hO hbo)
 have hs':¬ (65536:Int) < (s.size:Int):=by omega
 have HTk:=Hj (hTk wo (hTB.below hbo))
 have HT:=Hj (hT.below hbo)
 have tz:(0:Int) < (SL:Int):=by omega
 have HTr:=Hj (fun (W:World) => trim_0 U W hUs)
 have HTR:=Hj hTR
 have tr:=str_some hTz
 have HRp:=Hj hRp
 have HW:=Hj hWr
 clear hO hbo hTk hT hTB hs h0 hUs hTR hTz hRp hWr
 have te:(er != 0) = true:=by simpa using he
 clear he
 go_enter Tryz.func27,Tryz.ntmps27
 go_wp2_with fail
 refine (Uh HTk).mono ?_
 rintro _ w1 ⟨rfl,b1⟩
 have HB1:=Hj b1
 clear b1 HTk
 go_wp2_with fail
 have bp:Below w1.heap.size w1 (w1.alloc (.cells #[.bool g,.string D,.int .i64 (SL:Nat),.string U,.string PL,.int .i64 (LT:Nat),.string PW] 73)):=bAl
 have sp:=Sv.made w1 (.bool g) (.string D) (.int .i64 (SL:Nat)) (.string U) (.string PL) (.int .i64 (LT:Nat)) (.string PW) 73
 generalize w1.alloc (.cells #[.bool g,.string D,.int .i64 (SL:Nat),.string U,.string PL,.int .i64 (LT:Nat),.string PW] 73) = wp at *
 have hbp:=(Uh HB1).trans (bp.mono (Uh HB1).size)
 have HP:=Hj (And.intro sp (And.intro hbp (Uh HB1).size))
 have HX:=Hj hbp
 clear bp hbp sp
 have KTr:=Uh HTr wp
 rw [Uh HTR] at KTr
 refine KTr.mono ?_
 clear KTr
 rintro _ w2 ⟨rfl,b2⟩
 have sp:=(Uh HP).1.keep b2
 have hbp:=(Uh HP).2.1.trans (b2.mono (Uh HP).2.1.size)
 have HP:=Hj (And.intro sp (And.intro hbp (Uh HP).2.2))
 have HX:=Hj hbp
 have e6:=sp.c6
 have e2:=sp.c2
 clear b2 sp hbp
 go_wp2_with fail
 clear tr e6 e2
 refine (Uh HRp _).mono ?_
 rintro _ w3 ⟨rfl,b3⟩
 have sp:=(Uh HP).1.keep b3
 have hbp:=(Uh HP).2.1.trans (b3.mono (Uh HP).2.1.size)
 have HP3:=Hj (And.intro sp (And.intro hbp (Uh HP).2.2))
 have HX:=Hj hbp
 have e0:=sp.c0
 have e1:=sp.c1
 have e2:=sp.c2
 have e3:=sp.c3
 have e4:=sp.c4
 have e5:=sp.c5
 have e6:=sp.c6
 clear b3 sp hbp
 go_wp2_with fail
 refine (Uh HW _).mono ?_
 rintro _ w4 ⟨an,nn,cn,ad,nd,cd,rfl,sn,sd,b4⟩
 have hb4:=(Uh HP3).2.1.trans (b4.mono (Uh HP3).2.1.size)
 have i0:=((Uh HP3).1.keep b4).c0
 have HX:=Hj hb4
 have hne4:w1.heap.size ≠ w.heap.size:=by have h1:=(Uh HO).1.lt; have h2:=(Uh HP3).2.2; omega
 clear sn sd b4 hb4 e0 e1 e2 e3 e4 e5 e6
 have hO8:=(Uh HO).1.keep (Uh HX)
 obtain ⟨j0,u0⟩:=hO8.cells 0 (by decide)
 obtain ⟨j1,u1⟩:=hO8.cells 1 (by decide)
 obtain ⟨j2,u2⟩:=hO8.cells 2 (by decide)
 have v0:=hO8.fz 0 (by decide)
 have v1:=hO8.fz 1 (by decide)
 have v2:=hO8.fz 2 (by decide)
 have HR:=Hj (And.intro (three_set w4 w.heap.size (.bool false) (.slice none 0 0) (.slice none 0 0) hO8.cells) (ret_Q (w:=w) (gy:=false) hO8 (sl_nil _) (sl_nil _) (fun p hp => by cases hp) (fun p hp => by cases hp) ((Uh HO).2.trans ((Uh HX).mono (Uh HO).2.size)) (Nat.le_refl _)))
 clear hO8
 go_wp2_with fail
 obtain ⟨⟨t0_,t1_,t2_,cc_⟩,hR⟩:=Uh HR
 generalize ((w4.setCell ⟨w.heap.size,0,none⟩ (.bool false)).setCell ⟨w.heap.size,1,none⟩ (.slice none 0 0)).setCell ⟨w.heap.size,2,none⟩ (.slice none 0 0) = wf at *
 refine bodyPost_ret (by simp [results,Tryz.results27,go_sem,t0_,t1_,t2_]; try rfl) rfl ?_
 exact ⟨_,rfl,hR⟩
set_option maxRecDepth 100000 in
set_option maxHeartbeats 32000000 in
theorem parse_fF (g:Bool) (s D U PL PW:ByteArray) (SL LT:Nat) (w:World) (hs:s.size ≤ 65536) (hT:Tab64 w) (hTB:TabBh w)
  (hTk:∀ W,TabBh W → Calls Tryz.prog 36 #[.string s] W fun e w' => e = .returned (.tuple #[.agg #[.bool g,.string D,.int .i64 (SL:Nat),.string U,.string PL,.int .i64 (LT:Nat),.string PW],.int .i64 0,.bool true]) ∧ Below W.heap.size W w') (h0:0 < SL) (TR:ByteArray) (hUs:U.size ≤ 65536) (hTR:(⟨(Lib.trimS U.data.toList [48]).toArray⟩:ByteArray) = TR) (hTz:¬ TR.size = 0)
  (P:Int) (hRp:∀ W,Calls Tryz.prog 37 #[.string PW] W fun e w' => e = .returned (.tuple #[.int .i64 P,.bool true]) ∧ Below W.heap.size W w')
  (x y:List Nat) (ox:Ok x) (oy:Ok y) (kx:MayL x = true) (ky:MayL y = true) (ey:y ≠ []) (hWr:∀ W,Calls Tryz.prog 38 #[.agg #[.bool g,.string D,.int .i64 (SL:Nat),.string U,.string PL,.int .i64 (LT:Nat),.string PW],.int .i64 P] W fun e w' => WuPost W x y 0 e w') :
  Calls Tryz.prog 27 #[.string s] w fun e w' => PsPost w w' (g && decide (x ≠ [])) (limbs (val x / Nat.gcd (val x) (val y))) (limbs (val y / Nat.gcd (val x) (val y))) 0 0 e:=by
 obtain ⟨wo,hwo⟩:∃ z,w.alloc (.cells #[.bool false,.slice none 0 0,.slice none 0 0] 39) = z:=⟨_,rfl⟩
 have hbo:Below w.heap.size w wo:=by rw [← hwo]; exact bAl
 have hO:=Out.made w
 rw [hwo] at hO
 have HO:=Hj (And.intro hO hbo)
 have hs':¬ (65536:Int) < (s.size:Int):=by omega
 have HTk:=Hj (hTk wo (hTB.below hbo))
 have HT:=Hj (hT.below hbo)
 have tz:(0:Int) < (SL:Int):=by omega
 have HTr:=Hj (fun (W:World) => trim_0 U W hUs)
 have HTR:=Hj hTR
 have tr:=str_some hTz
 have HRp:=Hj hRp
 have HW:=Hj hWr
 obtain ⟨rn,hrn⟩:∃ z,limbs (val x / Nat.gcd (val x) (val y)) = z:=⟨_,rfl⟩
 obtain ⟨rd,hrd⟩:∃ z,limbs (val y / Nat.gcd (val x) (val y)) = z:=⟨_,rfl⟩
 obtain ⟨gg,hgg⟩:∃ z,(g && decide (x ≠ [])) = z:=⟨_,rfl⟩
 have HKLO:=Hj (fun (an ad:Option Addr) (nn cn nd cd:Nat) (W:World) (h1:Sl W an nn cn x) (h2:Sl W ad nd cd y) (h3:Tab64 W) => lowest_any g an ad nn cn nd cd x y W h1 h2 ox oy kx ky ey h3)
 rw [hrn,hrd,hgg] at HKLO
 rw [hrn,hrd,hgg]
 clear hrn hrd hgg ox oy kx ky ey
 clear hO hbo hTk hT hTB hs h0 hUs hTR hTz hRp hWr
 go_enter Tryz.func27,Tryz.ntmps27
 go_wp2_with fail
 refine (Uh HTk).mono ?_
 rintro _ w1 ⟨rfl,b1⟩
 have HB1:=Hj b1
 clear b1 HTk
 go_wp2_with fail
 have bp:Below w1.heap.size w1 (w1.alloc (.cells #[.bool g,.string D,.int .i64 (SL:Nat),.string U,.string PL,.int .i64 (LT:Nat),.string PW] 73)):=bAl
 have sp:=Sv.made w1 (.bool g) (.string D) (.int .i64 (SL:Nat)) (.string U) (.string PL) (.int .i64 (LT:Nat)) (.string PW) 73
 generalize w1.alloc (.cells #[.bool g,.string D,.int .i64 (SL:Nat),.string U,.string PL,.int .i64 (LT:Nat),.string PW] 73) = wp at *
 have hbp:=(Uh HB1).trans (bp.mono (Uh HB1).size)
 have HP:=Hj (And.intro sp (And.intro hbp (Uh HB1).size))
 have HX:=Hj hbp
 clear bp hbp sp
 have KTr:=Uh HTr wp
 rw [Uh HTR] at KTr
 refine KTr.mono ?_
 clear KTr
 rintro _ w2 ⟨rfl,b2⟩
 have sp:=(Uh HP).1.keep b2
 have hbp:=(Uh HP).2.1.trans (b2.mono (Uh HP).2.1.size)
 have HP:=Hj (And.intro sp (And.intro hbp (Uh HP).2.2))
 have HX:=Hj hbp
 have e6:=sp.c6
 have e2:=sp.c2
 clear b2 sp hbp
 go_wp2_with fail
 clear tr e6 e2
 refine (Uh HRp _).mono ?_
 rintro _ w3 ⟨rfl,b3⟩
 have sp:=(Uh HP).1.keep b3
 have hbp:=(Uh HP).2.1.trans (b3.mono (Uh HP).2.1.size)
 have HP3:=Hj (And.intro sp (And.intro hbp (Uh HP).2.2))
 have HX:=Hj hbp
 have e0:=sp.c0
 have e1:=sp.c1
 have e2:=sp.c2
 have e3:=sp.c3
 have e4:=sp.c4
 have e5:=sp.c5
 have e6:=sp.c6
 clear b3 sp hbp
 go_wp2_with fail
 refine (Uh HW _).mono ?_
 rintro _ w4 ⟨an,nn,cn,ad,nd,cd,rfl,sn,sd,b4⟩
 have hb4:=(Uh HP3).2.1.trans (b4.mono (Uh HP3).2.1.size)
 have i0:=((Uh HP3).1.keep b4).c0
 have HX:=Hj hb4
 have hne4:w1.heap.size ≠ w.heap.size:=by have h1:=(Uh HO).1.lt; have h2:=(Uh HP3).2.2; omega
 have HKL:=Hj (fun (W:World) (hb:Below w4.heap.size w4 W) => Uh HKLO an ad nn cn nd cd W (sn.below hb) (sd.below hb) (((Uh HT).below hb4).below hb))
 have H4:=Hj hb4
 clear sn sd b4 hb4 e0 e1 e2 e3 e4 e5 e6
 go_wp2_with fail
 refine (Uh HKL _ (Below.refl _ _)).mono ?_
 rintro _ w8 ⟨v8,rfl,aN,mN,cN,aD,mD,cD,rfl,sN,sD,nN,nD,b8⟩
 unfold ratV
 have hb8:=(Uh H4).trans (b8.mono (Uh H4).size)
 have hO8:=(Uh HO).1.keep hb8
 obtain ⟨j0,u0⟩:=hO8.cells 0 (by decide)
 obtain ⟨j1,u1⟩:=hO8.cells 1 (by decide)
 obtain ⟨j2,u2⟩:=hO8.cells 2 (by decide)
 have v0:=hO8.fz 0 (by decide)
 have v1:=hO8.fz 1 (by decide)
 have v2:=hO8.fz 2 (by decide)
 have hzc:=(Uh H4).size
 have hzo:=(Uh HO).1.lt
 have HR:=Hj (And.intro (three_set w8 w.heap.size (.bool gg) (.slice aN mN cN) (.slice aD mD cD) hO8.cells) (ret_Q (w:=w) (gy:=gg) hO8 sN sD (fun p hp => by have:=nN p hp; omega) (fun p hp => by have:=nD p hp; omega) ((Uh HO).2.trans (hb8.mono (Uh HO).2.size)) (Nat.le_refl _)))
 clear hO8 sN sD nN nD b8 hb8 hzc hzo
 go_wp2_with fail
 obtain ⟨⟨t0_,t1_,t2_,cc_⟩,hR⟩:=Uh HR
 generalize ((w8.setCell ⟨w.heap.size,0,none⟩ (.bool gg)).setCell ⟨w.heap.size,1,none⟩ (.slice aN mN cN)).setCell ⟨w.heap.size,2,none⟩ (.slice aD mD cD) = wf at *
 refine bodyPost_ret (by simp [results,Tryz.results27,go_sem,t0_,t1_,t2_]; try rfl) rfl ?_
 exact ⟨_,rfl,hR⟩
end Go.Proofs.YtjoaijbhpgekoaaGreatDoor
