/- Rpt2 -/
import Derived.Test.YtmnlhnmlgncedaaGreatDoorRps1
import Derived.Test.YtmnlhnmlgncedaaGreatDoorRpq
namespace Go.Proofs.YtmnlhnmlgncedaaGreatDoor
open Go.RowKit Go.Deep
set_option linter.unusedVariables false
set_option maxRecDepth 100000 in
set_option maxHeartbeats 32000000 in
theorem wdec_1Loa (s:ByteArray) (g:Bool) (i j k:Nat) (w:World) (hs:s.size ≤ 65536) (hij:i < j) (hjl:j < s.size) (hk:byA s j = 46) (hr:RunK s (j + 1) k) (hjk:j + 1 < k) (hel:k < s.size) (hl:byA s k = 101 ∨ byA s k = 69) (hsl:k + 1 < s.size) (hs1:byA s (k + 1) ≠ 43) (hs2:byA s (k + 1) ≠ 45) (m:Nat) (hrm:RunK s (k + 1) m) (hm:k + 1 < m) (hml:m = s.size) (N:Nat) (hP:∀ W,Calls Tryz.prog 115 #[.string (s.extract (k + 1) m)] W fun e w' => e = .returned (.int .i64 (N:Nat)) ∧ w' = W) (hN:4096 < N) (hN2:N ≤ 4097) :
  Calls Tryz.prog 61 #[.string s,.bool g,.int .i64 (i:Nat),.int .i64 (j:Nat)] w fun e w' => PsPost w w' false [] [] (k:Nat) 1 e:=by
 obtain ⟨wo,hwo⟩:∃ z,w.alloc (.cells #[.bool false,.slice none 0 0,.slice none 0 0] 25) = z:=⟨_,rfl⟩
 have hbo:Below w.heap.size w wo:=by rw [← hwo]; exact bAl
 have hO:=Out.made w
 rw [hwo] at hO
 have HO:=Hj (And.intro hO hbo)
 have HX:=Hj (Below.refl wo.heap.size wo)
 clear hO hbo
 have tij:(i:Int) ≤ (j:Int):=by omega
 have hkt:=hr.top
 have tl:(j:Int) < (s.size:Int):=by omega
 have t46:(((s[j]'hjl).toNat:Int) == 46) = true:=(byte_is (c:=46) hjl hk).1
 have t46':((s[j]'hjl).toNat:Int) = 46:=(byte_is (c:=46) hjl hk).2
 have KD:=Hj (fun (W:World) => wdigEnd_any s (j + 1) k W hs hr)
 clear hr
 have te:(k:Int) < (s.size:Int):=by omega
 have LT:=lett_of hel hl
 have ts:(k:Int) + 1 < (s.size:Int):=by omega
 have t43:(((s[k+1]'hsl).toNat:Int) == 43) = false:=(byte_not (c:=43) hsl hs1).1
 have t43':¬ ((s[k+1]'hsl).toNat:Int) = 43:=(byte_not (c:=43) hsl hs1).2
 have t45:(((s[k+1]'hsl).toNat:Int) == 45) = false:=(byte_not (c:=45) hsl hs2).1
 have t45':¬ ((s[k+1]'hsl).toNat:Int) = 45:=(byte_not (c:=45) hsl hs2).2
 have hmt:=hrm.top
 have hml0:=hrm.le
 have KM:=Hj (fun (W:World) => wdigEnd_any s (k + 1) m W hs hrm)
 clear hrm
 have KP:=Hj hP
 clear hP
 go_enter Tryz.func61,Tryz.ntmps61
 go_wp2_with fail
 refine (Uh KD _).mono ?_
 rintro _ _ ⟨rfl,hw⟩
 obtain rfl:=hw.symm
 clear hw KD
 have tk:((k:Int) == (j:Int) + 1) = false:=by simp; omega
 have tk1:(j:Int) + 1 ≤ (k:Int):=by omega
 have tk2:(k:Int) ≤ (s.size:Int):=by omega
 rcases LT with ⟨a1,a2⟩ | ⟨a1,a2,a3,a4⟩
 all_goals
  go_wp2_with fail
  refine (Uh KM _).mono ?_
  rintro _ _ ⟨rfl,hw⟩
  obtain rfl:=hw.symm
  clear hw KM
  have tm:((m:Int) == (k:Int) + 1) = false:=by simp; omega
  have tm1:(k:Int) + 1 ≤ (m:Int):=by omega
  have tm2:(m:Int) ≤ (s.size:Int):=by omega
  have tml:¬ (m:Int) < (s.size:Int):=by omega
  have HML:=Hj hml
  clear hml
  go_wp2_with fail
  refine (Uh KP _).mono ?_
  rintro _ _ ⟨rfl,hw⟩
  obtain rfl:=hw.symm
  clear hw KP
  have tn:(4096:Int) < (N:Int):=by omega
  have hO8:=(Uh HO).1.keep (Uh HX)
  obtain ⟨j0,u0⟩:=hO8.cells 0 (by decide)
  obtain ⟨j1,u1⟩:=hO8.cells 1 (by decide)
  obtain ⟨j2,u2⟩:=hO8.cells 2 (by decide)
  have v0:=hO8.fz 0 (by decide)
  have v1:=hO8.fz 1 (by decide)
  have v2:=hO8.fz 2 (by decide)
  have HR:=Hj (And.intro (three_set wo w.heap.size (.bool false) (.slice none 0 0) (.slice none 0 0) hO8.cells) (ret_Q (w:=w) (gy:=false) hO8 (sl_nil _) (sl_nil _) (fun p hp => by cases hp) (fun p hp => by cases hp) ((Uh HO).2.trans ((Uh HX).mono (Uh HO).2.size)) (Nat.le_refl _)))
  clear hO8
  go_wp2_with fail
  obtain ⟨⟨t0_,t1_,t2_,cc_⟩,hR⟩:=Uh HR
  generalize ((wo.setCell ⟨w.heap.size,0,none⟩ (.bool false)).setCell ⟨w.heap.size,1,none⟩ (.slice none 0 0)).setCell ⟨w.heap.size,2,none⟩ (.slice none 0 0) = wf at *
  refine bodyPost_ret (by simp [results,Tryz.results61,go_sem,t0_,t1_,t2_]; try rfl) rfl ?_
  exact ⟨_,rfl,hR⟩
set_option maxRecDepth 100000 in
set_option maxHeartbeats 32000000 in
theorem wdec_1Lpa (s:ByteArray) (g:Bool) (i j k:Nat) (w:World) (hs:s.size ≤ 65536) (hij:i < j) (hjl:j < s.size) (hk:byA s j = 46) (hr:RunK s (j + 1) k) (hjk:j + 1 < k) (hel:k < s.size) (hl:byA s k = 101 ∨ byA s k = 69) (hsl:k + 1 < s.size) (hs1:byA s (k + 1) = 43) (hs2:byA s (k + 1) ≠ 45) (m:Nat) (hrm:RunK s (k + 1 + 1) m) (hm:k + 1 + 1 < m) (hml:m = s.size) (N:Nat) (hP:∀ W,Calls Tryz.prog 115 #[.string (s.extract (k + 1 + 1) m)] W fun e w' => e = .returned (.int .i64 (N:Nat)) ∧ w' = W) (hN:4096 < N) (hN2:N ≤ 4097) :
  Calls Tryz.prog 61 #[.string s,.bool g,.int .i64 (i:Nat),.int .i64 (j:Nat)] w fun e w' => PsPost w w' false [] [] (k:Nat) 1 e:=by
 obtain ⟨wo,hwo⟩:∃ z,w.alloc (.cells #[.bool false,.slice none 0 0,.slice none 0 0] 25) = z:=⟨_,rfl⟩
 have hbo:Below w.heap.size w wo:=by rw [← hwo]; exact bAl
 have hO:=Out.made w
 rw [hwo] at hO
 have HO:=Hj (And.intro hO hbo)
 have HX:=Hj (Below.refl wo.heap.size wo)
 clear hO hbo
 have tij:(i:Int) ≤ (j:Int):=by omega
 have hkt:=hr.top
 have tl:(j:Int) < (s.size:Int):=by omega
 have t46:(((s[j]'hjl).toNat:Int) == 46) = true:=(byte_is (c:=46) hjl hk).1
 have t46':((s[j]'hjl).toNat:Int) = 46:=(byte_is (c:=46) hjl hk).2
 have KD:=Hj (fun (W:World) => wdigEnd_any s (j + 1) k W hs hr)
 clear hr
 have te:(k:Int) < (s.size:Int):=by omega
 have LT:=lett_of hel hl
 have ts:(k:Int) + 1 < (s.size:Int):=by omega
 have t43:(((s[k+1]'hsl).toNat:Int) == 43) = true:=(byte_is (c:=43) hsl hs1).1
 have t43':((s[k+1]'hsl).toNat:Int) = 43:=(byte_is (c:=43) hsl hs1).2
 have t45:(((s[k+1]'hsl).toNat:Int) == 45) = false:=(byte_not (c:=45) hsl hs2).1
 have t45':¬ ((s[k+1]'hsl).toNat:Int) = 45:=(byte_not (c:=45) hsl hs2).2
 have hmt:=hrm.top
 have hml0:=hrm.le
 have KM:=Hj (fun (W:World) => wdigEnd_any s (k + 1 + 1) m W hs hrm)
 clear hrm
 have KP:=Hj hP
 clear hP
 go_enter Tryz.func61,Tryz.ntmps61
 go_wp2_with fail
 refine (Uh KD _).mono ?_
 rintro _ _ ⟨rfl,hw⟩
 obtain rfl:=hw.symm
 clear hw KD
 have tk:((k:Int) == (j:Int) + 1) = false:=by simp; omega
 have tk1:(j:Int) + 1 ≤ (k:Int):=by omega
 have tk2:(k:Int) ≤ (s.size:Int):=by omega
 rcases LT with ⟨a1,a2⟩ | ⟨a1,a2,a3,a4⟩
 all_goals
  go_wp2_with fail
  refine (Uh KM _).mono ?_
  rintro _ _ ⟨rfl,hw⟩
  obtain rfl:=hw.symm
  clear hw KM
  have tm:((m:Int) == (k:Int) + 1 + 1) = false:=by simp; omega
  have tm1:(k:Int) + 1 + 1 ≤ (m:Int):=by omega
  have tm2:(m:Int) ≤ (s.size:Int):=by omega
  have tml:¬ (m:Int) < (s.size:Int):=by omega
  have HML:=Hj hml
  clear hml
  go_wp2_with fail
  refine (Uh KP _).mono ?_
  rintro _ _ ⟨rfl,hw⟩
  obtain rfl:=hw.symm
  clear hw KP
  have tn:(4096:Int) < (N:Int):=by omega
  have hO8:=(Uh HO).1.keep (Uh HX)
  obtain ⟨j0,u0⟩:=hO8.cells 0 (by decide)
  obtain ⟨j1,u1⟩:=hO8.cells 1 (by decide)
  obtain ⟨j2,u2⟩:=hO8.cells 2 (by decide)
  have v0:=hO8.fz 0 (by decide)
  have v1:=hO8.fz 1 (by decide)
  have v2:=hO8.fz 2 (by decide)
  have HR:=Hj (And.intro (three_set wo w.heap.size (.bool false) (.slice none 0 0) (.slice none 0 0) hO8.cells) (ret_Q (w:=w) (gy:=false) hO8 (sl_nil _) (sl_nil _) (fun p hp => by cases hp) (fun p hp => by cases hp) ((Uh HO).2.trans ((Uh HX).mono (Uh HO).2.size)) (Nat.le_refl _)))
  clear hO8
  go_wp2_with fail
  obtain ⟨⟨t0_,t1_,t2_,cc_⟩,hR⟩:=Uh HR
  generalize ((wo.setCell ⟨w.heap.size,0,none⟩ (.bool false)).setCell ⟨w.heap.size,1,none⟩ (.slice none 0 0)).setCell ⟨w.heap.size,2,none⟩ (.slice none 0 0) = wf at *
  refine bodyPost_ret (by simp [results,Tryz.results61,go_sem,t0_,t1_,t2_]; try rfl) rfl ?_
  exact ⟨_,rfl,hR⟩
set_option maxRecDepth 100000 in
set_option maxHeartbeats 32000000 in
theorem wdec_1Lma (s:ByteArray) (g:Bool) (i j k:Nat) (w:World) (hs:s.size ≤ 65536) (hij:i < j) (hjl:j < s.size) (hk:byA s j = 46) (hr:RunK s (j + 1) k) (hjk:j + 1 < k) (hel:k < s.size) (hl:byA s k = 101 ∨ byA s k = 69) (hsl:k + 1 < s.size) (hs1:byA s (k + 1) ≠ 43) (hs2:byA s (k + 1) = 45) (m:Nat) (hrm:RunK s (k + 1 + 1) m) (hm:k + 1 + 1 < m) (hml:m = s.size) (N:Nat) (hP:∀ W,Calls Tryz.prog 115 #[.string (s.extract (k + 1 + 1) m)] W fun e w' => e = .returned (.int .i64 (N:Nat)) ∧ w' = W) (hN:4096 < N) (hN2:N ≤ 4097) :
  Calls Tryz.prog 61 #[.string s,.bool g,.int .i64 (i:Nat),.int .i64 (j:Nat)] w fun e w' => PsPost w w' false [] [] (k:Nat) 1 e:=by
 obtain ⟨wo,hwo⟩:∃ z,w.alloc (.cells #[.bool false,.slice none 0 0,.slice none 0 0] 25) = z:=⟨_,rfl⟩
 have hbo:Below w.heap.size w wo:=by rw [← hwo]; exact bAl
 have hO:=Out.made w
 rw [hwo] at hO
 have HO:=Hj (And.intro hO hbo)
 have HX:=Hj (Below.refl wo.heap.size wo)
 clear hO hbo
 have tij:(i:Int) ≤ (j:Int):=by omega
 have hkt:=hr.top
 have tl:(j:Int) < (s.size:Int):=by omega
 have t46:(((s[j]'hjl).toNat:Int) == 46) = true:=(byte_is (c:=46) hjl hk).1
 have t46':((s[j]'hjl).toNat:Int) = 46:=(byte_is (c:=46) hjl hk).2
 have KD:=Hj (fun (W:World) => wdigEnd_any s (j + 1) k W hs hr)
 clear hr
 have te:(k:Int) < (s.size:Int):=by omega
 have LT:=lett_of hel hl
 have ts:(k:Int) + 1 < (s.size:Int):=by omega
 have t43:(((s[k+1]'hsl).toNat:Int) == 43) = false:=(byte_not (c:=43) hsl hs1).1
 have t43':¬ ((s[k+1]'hsl).toNat:Int) = 43:=(byte_not (c:=43) hsl hs1).2
 have t45:(((s[k+1]'hsl).toNat:Int) == 45) = true:=(byte_is (c:=45) hsl hs2).1
 have t45':((s[k+1]'hsl).toNat:Int) = 45:=(byte_is (c:=45) hsl hs2).2
 have hmt:=hrm.top
 have hml0:=hrm.le
 have KM:=Hj (fun (W:World) => wdigEnd_any s (k + 1 + 1) m W hs hrm)
 clear hrm
 have KP:=Hj hP
 clear hP
 go_enter Tryz.func61,Tryz.ntmps61
 go_wp2_with fail
 refine (Uh KD _).mono ?_
 rintro _ _ ⟨rfl,hw⟩
 obtain rfl:=hw.symm
 clear hw KD
 have tk:((k:Int) == (j:Int) + 1) = false:=by simp; omega
 have tk1:(j:Int) + 1 ≤ (k:Int):=by omega
 have tk2:(k:Int) ≤ (s.size:Int):=by omega
 rcases LT with ⟨a1,a2⟩ | ⟨a1,a2,a3,a4⟩
 all_goals
  go_wp2_with fail
  refine (Uh KM _).mono ?_
  rintro _ _ ⟨rfl,hw⟩
  obtain rfl:=hw.symm
  clear hw KM
  have tm:((m:Int) == (k:Int) + 1 + 1) = false:=by simp; omega
  have tm1:(k:Int) + 1 + 1 ≤ (m:Int):=by omega
  have tm2:(m:Int) ≤ (s.size:Int):=by omega
  have tml:¬ (m:Int) < (s.size:Int):=by omega
  have HML:=Hj hml
  clear hml
  go_wp2_with fail
  refine (Uh KP _).mono ?_
  rintro _ _ ⟨rfl,hw⟩
  obtain rfl:=hw.symm
  clear hw KP
  have tn:¬ (4096:Int) < -(N:Int):=by omega
  have tn2:-(N:Int) < (-4096:Int):=by omega
  have hO8:=(Uh HO).1.keep (Uh HX)
  obtain ⟨j0,u0⟩:=hO8.cells 0 (by decide)
  obtain ⟨j1,u1⟩:=hO8.cells 1 (by decide)
  obtain ⟨j2,u2⟩:=hO8.cells 2 (by decide)
  have v0:=hO8.fz 0 (by decide)
  have v1:=hO8.fz 1 (by decide)
  have v2:=hO8.fz 2 (by decide)
  have HR:=Hj (And.intro (three_set wo w.heap.size (.bool false) (.slice none 0 0) (.slice none 0 0) hO8.cells) (ret_Q (w:=w) (gy:=false) hO8 (sl_nil _) (sl_nil _) (fun p hp => by cases hp) (fun p hp => by cases hp) ((Uh HO).2.trans ((Uh HX).mono (Uh HO).2.size)) (Nat.le_refl _)))
  clear hO8
  go_wp2_with fail
  obtain ⟨⟨t0_,t1_,t2_,cc_⟩,hR⟩:=Uh HR
  generalize ((wo.setCell ⟨w.heap.size,0,none⟩ (.bool false)).setCell ⟨w.heap.size,1,none⟩ (.slice none 0 0)).setCell ⟨w.heap.size,2,none⟩ (.slice none 0 0) = wf at *
  refine bodyPost_ret (by simp [results,Tryz.results61,go_sem,t0_,t1_,t2_]; try rfl) rfl ?_
  exact ⟨_,rfl,hR⟩
set_option maxRecDepth 100000 in
set_option maxHeartbeats 32000000 in
theorem wdec_1Lou (s:ByteArray) (g:Bool) (i j k:Nat) (w:World) (hs:s.size ≤ 65536) (hij:i < j) (hjl:j < s.size) (hk:byA s j = 46) (hr:RunK s (j + 1) k) (hjk:j + 1 < k) (hel:k < s.size) (hl:byA s k = 101 ∨ byA s k = 69) (hsl:k + 1 < s.size) (hs1:byA s (k + 1) ≠ 43) (hs2:byA s (k + 1) ≠ 45) (m:Nat) (hrm:RunK s (k + 1) m) (hm:k + 1 < m) (hml:m = s.size) (N:Nat) (hP:∀ W,Calls Tryz.prog 115 #[.string (s.extract (k + 1) m)] W fun e w' => e = .returned (.int .i64 (N:Nat)) ∧ w' = W) (hN:N ≤ 4096) (Q:Nat) (hQ:(N:Int) - ((k - j - 1:Nat):Int) = (Q:Int)) (rg:Bool) (rx ry:List Nat) (ra re:Int) (hW:∀ W,Calls Tryz.prog 60 #[.bool g,.string (s.extract i j ++ s.extract (j + 1) k),.int .i64 (Q:Nat),.string ⟨#[49]⟩,.int .i64 0] W fun e w' => PsPost W w' rg rx ry ra re e) :
  Calls Tryz.prog 61 #[.string s,.bool g,.int .i64 (i:Nat),.int .i64 (j:Nat)] w fun e w' => PsPost w w' rg rx ry ra re e:=by
 obtain ⟨wo,hwo⟩:∃ z,w.alloc (.cells #[.bool false,.slice none 0 0,.slice none 0 0] 25) = z:=⟨_,rfl⟩
 have hbo:Below w.heap.size w wo:=by rw [← hwo]; exact bAl
 have hO:=Out.made w
 rw [hwo] at hO
 have HO:=Hj (And.intro hO hbo)
 have HX:=Hj (Below.refl wo.heap.size wo)
 clear hO hbo
 have tij:(i:Int) ≤ (j:Int):=by omega
 have hkt:=hr.top
 have tl:(j:Int) < (s.size:Int):=by omega
 have t46:(((s[j]'hjl).toNat:Int) == 46) = true:=(byte_is (c:=46) hjl hk).1
 have t46':((s[j]'hjl).toNat:Int) = 46:=(byte_is (c:=46) hjl hk).2
 have KD:=Hj (fun (W:World) => wdigEnd_any s (j + 1) k W hs hr)
 clear hr
 obtain ⟨B,hBd⟩:∃ B,k - j - 1 = B:=⟨_,rfl⟩
 rw [hBd] at hQ
 have tB:(k:Int) - (j:Int) - 1 = (B:Int):=by omega
 have tB0:0 < B:=by omega
 have tB1:B ≤ 65536:=by omega
 have tB2:¬ (0:Int) ≤ -(B:Int):=by omega
 clear hBd
 have te:(k:Int) < (s.size:Int):=by omega
 have LT:=lett_of hel hl
 have ts:(k:Int) + 1 < (s.size:Int):=by omega
 have t43:(((s[k+1]'hsl).toNat:Int) == 43) = false:=(byte_not (c:=43) hsl hs1).1
 have t43':¬ ((s[k+1]'hsl).toNat:Int) = 43:=(byte_not (c:=43) hsl hs1).2
 have t45:(((s[k+1]'hsl).toNat:Int) == 45) = false:=(byte_not (c:=45) hsl hs2).1
 have t45':¬ ((s[k+1]'hsl).toNat:Int) = 45:=(byte_not (c:=45) hsl hs2).2
 have hmt:=hrm.top
 have hml0:=hrm.le
 have KM:=Hj (fun (W:World) => wdigEnd_any s (k + 1) m W hs hrm)
 clear hrm
 have KP:=Hj hP
 clear hP
 have HW:=Hj hW
 clear hW
 go_enter Tryz.func61,Tryz.ntmps61
 go_wp2_with fail
 refine (Uh KD _).mono ?_
 rintro _ _ ⟨rfl,hw⟩
 obtain rfl:=hw.symm
 clear hw KD
 have tk:((k:Int) == (j:Int) + 1) = false:=by simp; omega
 have tk1:(j:Int) + 1 ≤ (k:Int):=by omega
 have tk2:(k:Int) ≤ (s.size:Int):=by omega
 rcases LT with ⟨a1,a2⟩ | ⟨a1,a2,a3,a4⟩
 all_goals
  go_wp2_with fail
  refine (Uh KM _).mono ?_
  rintro _ _ ⟨rfl,hw⟩
  obtain rfl:=hw.symm
  clear hw KM
  have tm:((m:Int) == (k:Int) + 1) = false:=by simp; omega
  have tm1:(k:Int) + 1 ≤ (m:Int):=by omega
  have tm2:(m:Int) ≤ (s.size:Int):=by omega
  have tml:¬ (m:Int) < (s.size:Int):=by omega
  have HML:=Hj hml
  clear hml
  go_wp2_with fail
  refine (Uh KP _).mono ?_
  rintro _ _ ⟨rfl,hw⟩
  obtain rfl:=hw.symm
  clear hw KP
  have tn:¬ (4096:Int) < (N:Int):=by omega
  have tn2:¬ (N:Int) < (-4096:Int):=by omega
  go_wp2_with fail
  refine (Uh HW _).mono ?_
  rintro _ w8 ⟨v8,rfl,aN,mN,cN,aD,mD,cD,rfl,sN,sD,nN,nD,b8⟩
  unfold ratV
  have hO8:=(Uh HO).1.keep b8
  obtain ⟨j0,u0⟩:=hO8.cells 0 (by decide)
  obtain ⟨j1,u1⟩:=hO8.cells 1 (by decide)
  obtain ⟨j2,u2⟩:=hO8.cells 2 (by decide)
  have v0:=hO8.fz 0 (by decide)
  have v1:=hO8.fz 1 (by decide)
  have v2:=hO8.fz 2 (by decide)
  have hzo:=(Uh HO).1.lt
  have HR:=Hj (And.intro (three_set w8 w.heap.size (.bool rg) (.slice aN mN cN) (.slice aD mD cD) hO8.cells) (ret_Q (w:=w) (gy:=rg) hO8 sN sD (fun p hp => by have:=nN p hp; omega) (fun p hp => by have:=nD p hp; omega) ((Uh HO).2.trans (b8.mono (Uh HO).2.size)) (Nat.le_refl _)))
  clear hO8 sN sD nN nD b8 hzo
  go_wp2_with fail
  obtain ⟨⟨t0_,t1_,t2_,cc_⟩,hR⟩:=Uh HR
  generalize ((w8.setCell ⟨w.heap.size,0,none⟩ (.bool rg)).setCell ⟨w.heap.size,1,none⟩ (.slice aN mN cN)).setCell ⟨w.heap.size,2,none⟩ (.slice aD mD cD) = wf at *
  refine bodyPost_ret (by simp [results,Tryz.results61,go_sem,t0_,t1_,t2_]; try rfl) rfl ?_
  exact ⟨_,rfl,hR⟩
set_option maxRecDepth 100000 in
set_option maxHeartbeats 32000000 in
theorem wdec_1Lpu (s:ByteArray) (g:Bool) (i j k:Nat) (w:World) (hs:s.size ≤ 65536) (hij:i < j) (hjl:j < s.size) (hk:byA s j = 46) (hr:RunK s (j + 1) k) (hjk:j + 1 < k) (hel:k < s.size) (hl:byA s k = 101 ∨ byA s k = 69) (hsl:k + 1 < s.size) (hs1:byA s (k + 1) = 43) (hs2:byA s (k + 1) ≠ 45) (m:Nat) (hrm:RunK s (k + 1 + 1) m) (hm:k + 1 + 1 < m) (hml:m = s.size) (N:Nat) (hP:∀ W,Calls Tryz.prog 115 #[.string (s.extract (k + 1 + 1) m)] W fun e w' => e = .returned (.int .i64 (N:Nat)) ∧ w' = W) (hN:N ≤ 4096) (Q:Nat) (hQ:(N:Int) - ((k - j - 1:Nat):Int) = (Q:Int)) (rg:Bool) (rx ry:List Nat) (ra re:Int) (hW:∀ W,Calls Tryz.prog 60 #[.bool g,.string (s.extract i j ++ s.extract (j + 1) k),.int .i64 (Q:Nat),.string ⟨#[49]⟩,.int .i64 0] W fun e w' => PsPost W w' rg rx ry ra re e) :
  Calls Tryz.prog 61 #[.string s,.bool g,.int .i64 (i:Nat),.int .i64 (j:Nat)] w fun e w' => PsPost w w' rg rx ry ra re e:=by
 obtain ⟨wo,hwo⟩:∃ z,w.alloc (.cells #[.bool false,.slice none 0 0,.slice none 0 0] 25) = z:=⟨_,rfl⟩
 have hbo:Below w.heap.size w wo:=by rw [← hwo]; exact bAl
 have hO:=Out.made w
 rw [hwo] at hO
 have HO:=Hj (And.intro hO hbo)
 have HX:=Hj (Below.refl wo.heap.size wo)
 clear hO hbo
 have tij:(i:Int) ≤ (j:Int):=by omega
 have hkt:=hr.top
 have tl:(j:Int) < (s.size:Int):=by omega
 have t46:(((s[j]'hjl).toNat:Int) == 46) = true:=(byte_is (c:=46) hjl hk).1
 have t46':((s[j]'hjl).toNat:Int) = 46:=(byte_is (c:=46) hjl hk).2
 have KD:=Hj (fun (W:World) => wdigEnd_any s (j + 1) k W hs hr)
 clear hr
 obtain ⟨B,hBd⟩:∃ B,k - j - 1 = B:=⟨_,rfl⟩
 rw [hBd] at hQ
 have tB:(k:Int) - (j:Int) - 1 = (B:Int):=by omega
 have tB0:0 < B:=by omega
 have tB1:B ≤ 65536:=by omega
 have tB2:¬ (0:Int) ≤ -(B:Int):=by omega
 clear hBd
 have te:(k:Int) < (s.size:Int):=by omega
 have LT:=lett_of hel hl
 have ts:(k:Int) + 1 < (s.size:Int):=by omega
 have t43:(((s[k+1]'hsl).toNat:Int) == 43) = true:=(byte_is (c:=43) hsl hs1).1
 have t43':((s[k+1]'hsl).toNat:Int) = 43:=(byte_is (c:=43) hsl hs1).2
 have t45:(((s[k+1]'hsl).toNat:Int) == 45) = false:=(byte_not (c:=45) hsl hs2).1
 have t45':¬ ((s[k+1]'hsl).toNat:Int) = 45:=(byte_not (c:=45) hsl hs2).2
 have hmt:=hrm.top
 have hml0:=hrm.le
 have KM:=Hj (fun (W:World) => wdigEnd_any s (k + 1 + 1) m W hs hrm)
 clear hrm
 have KP:=Hj hP
 clear hP
 have HW:=Hj hW
 clear hW
 go_enter Tryz.func61,Tryz.ntmps61
 go_wp2_with fail
 refine (Uh KD _).mono ?_
 rintro _ _ ⟨rfl,hw⟩
 obtain rfl:=hw.symm
 clear hw KD
 have tk:((k:Int) == (j:Int) + 1) = false:=by simp; omega
 have tk1:(j:Int) + 1 ≤ (k:Int):=by omega
 have tk2:(k:Int) ≤ (s.size:Int):=by omega
 rcases LT with ⟨a1,a2⟩ | ⟨a1,a2,a3,a4⟩
 all_goals
  go_wp2_with fail
  refine (Uh KM _).mono ?_
  rintro _ _ ⟨rfl,hw⟩
  obtain rfl:=hw.symm
  clear hw KM
  have tm:((m:Int) == (k:Int) + 1 + 1) = false:=by simp; omega
  have tm1:(k:Int) + 1 + 1 ≤ (m:Int):=by omega
  have tm2:(m:Int) ≤ (s.size:Int):=by omega
  have tml:¬ (m:Int) < (s.size:Int):=by omega
  have HML:=Hj hml
  clear hml
  go_wp2_with fail
  refine (Uh KP _).mono ?_
  rintro _ _ ⟨rfl,hw⟩
  obtain rfl:=hw.symm
  clear hw KP
  have tn:¬ (4096:Int) < (N:Int):=by omega
  have tn2:¬ (N:Int) < (-4096:Int):=by omega
  go_wp2_with fail
  refine (Uh HW _).mono ?_
  rintro _ w8 ⟨v8,rfl,aN,mN,cN,aD,mD,cD,rfl,sN,sD,nN,nD,b8⟩
  unfold ratV
  have hO8:=(Uh HO).1.keep b8
  obtain ⟨j0,u0⟩:=hO8.cells 0 (by decide)
  obtain ⟨j1,u1⟩:=hO8.cells 1 (by decide)
  obtain ⟨j2,u2⟩:=hO8.cells 2 (by decide)
  have v0:=hO8.fz 0 (by decide)
  have v1:=hO8.fz 1 (by decide)
  have v2:=hO8.fz 2 (by decide)
  have hzo:=(Uh HO).1.lt
  have HR:=Hj (And.intro (three_set w8 w.heap.size (.bool rg) (.slice aN mN cN) (.slice aD mD cD) hO8.cells) (ret_Q (w:=w) (gy:=rg) hO8 sN sD (fun p hp => by have:=nN p hp; omega) (fun p hp => by have:=nD p hp; omega) ((Uh HO).2.trans (b8.mono (Uh HO).2.size)) (Nat.le_refl _)))
  clear hO8 sN sD nN nD b8 hzo
  go_wp2_with fail
  obtain ⟨⟨t0_,t1_,t2_,cc_⟩,hR⟩:=Uh HR
  generalize ((w8.setCell ⟨w.heap.size,0,none⟩ (.bool rg)).setCell ⟨w.heap.size,1,none⟩ (.slice aN mN cN)).setCell ⟨w.heap.size,2,none⟩ (.slice aD mD cD) = wf at *
  refine bodyPost_ret (by simp [results,Tryz.results61,go_sem,t0_,t1_,t2_]; try rfl) rfl ?_
  exact ⟨_,rfl,hR⟩
set_option maxRecDepth 100000 in
set_option maxHeartbeats 32000000 in
theorem wdec_1Lmu (s:ByteArray) (g:Bool) (i j k:Nat) (w:World) (hs:s.size ≤ 65536) (hij:i < j) (hjl:j < s.size) (hk:byA s j = 46) (hr:RunK s (j + 1) k) (hjk:j + 1 < k) (hel:k < s.size) (hl:byA s k = 101 ∨ byA s k = 69) (hsl:k + 1 < s.size) (hs1:byA s (k + 1) ≠ 43) (hs2:byA s (k + 1) = 45) (m:Nat) (hrm:RunK s (k + 1 + 1) m) (hm:k + 1 + 1 < m) (hml:m = s.size) (N:Nat) (hP:∀ W,Calls Tryz.prog 115 #[.string (s.extract (k + 1 + 1) m)] W fun e w' => e = .returned (.int .i64 (N:Nat)) ∧ w' = W) (hN:N ≤ 4096) (Q:Nat) (hQ:-(N:Int) - ((k - j - 1:Nat):Int) = (Q:Int)) (rg:Bool) (rx ry:List Nat) (ra re:Int) (hW:∀ W,Calls Tryz.prog 60 #[.bool g,.string (s.extract i j ++ s.extract (j + 1) k),.int .i64 (Q:Nat),.string ⟨#[49]⟩,.int .i64 0] W fun e w' => PsPost W w' rg rx ry ra re e) :
  Calls Tryz.prog 61 #[.string s,.bool g,.int .i64 (i:Nat),.int .i64 (j:Nat)] w fun e w' => PsPost w w' rg rx ry ra re e:=by
 exact absurd hQ (by omega)
theorem kd_is {s:ByteArray} {i:Nat} (h:i < s.size):kdA s i = kdN (byA s i):=by unfold kdA; rw [if_neg (by omega)]
theorem kd_three {s:ByteArray} {i:Nat} (h:i < s.size):kdA s i = 3 ↔ byA s i = 43:=by
 rw [kd_is h]; unfold kdN
 constructor
 ·intro k; revert k; repeat (first | split | (intro k; omega))
 ·intro k; rw [k]; rfl
theorem kd_four {s:ByteArray} {i:Nat} (h:i < s.size):kdA s i = 4 ↔ byA s i = 47:=by
 rw [kd_is h]; unfold kdN
 constructor
 ·intro k; revert k; repeat (first | split | (intro k; omega))
 ·intro k; rw [k]; rfl
theorem kd_five {s:ByteArray} {i:Nat} (h:i < s.size):kdA s i = 5 ↔ byA s i = 46:=by
 rw [kd_is h]; unfold kdN
 constructor
 ·intro k; revert k; repeat (first | split | (intro k; omega))
 ·intro k; rw [k]; rfl
theorem kd_six {s:ByteArray} {i:Nat} (h:i < s.size):kdA s i = 6 ↔ byA s i = 101 ∨ byA s i = 69:=by
 rw [kd_is h]; unfold kdN
 constructor
 ·intro k; revert k; repeat (first | split | (intro k; omega))
 ·intro k; rcases k with k | k <;> (rw [k]; rfl)
theorem run_dig {s:ByteArray} {i j:Nat} (r:RunK s i j):∀ q,q < (s.extract i j).size → 48 ≤ byA (s.extract i j) q ∧ byA (s.extract i j) q ≤ 57:=fun q hq => by
 have ht:=r.top
 have hz:(s.extract i j).size = j - i:=by rw [ByteArray.size_extract]; omega
 rw [hz] at hq
 rw [byA_ext hq ht]
 exact (kd_one (by omega)).1 (r.all (i + q) (by omega) (by omega))
theorem byA_app {A B:ByteArray} {q:Nat}:byA (A ++ B) q = if q < A.size then byA A q else byA B (q - A.size):=by
 unfold byA
 have e1:∀ (x:ByteArray) (i:Nat),x.get! i = x.data[i]!:=fun _ _ => rfl
 rw [e1,e1,e1]
 have hd:(A ++ B).data = A.data ++ B.data:=by simp
 have hz:A.data.size = A.size:=rfl
 rw [hd]
 split
 ·rename_i h
  rw [Array.getElem!_eq_getD,Array.getElem!_eq_getD]
  simp [Array.getD_eq_getD_getElem?,Array.getElem?_append,hz,h]
 ·rename_i h
  rw [Array.getElem!_eq_getD,Array.getElem!_eq_getD]
  simp [Array.getD_eq_getD_getElem?,Array.getElem?_append,hz,h]
theorem dig_app {A B:ByteArray} (hA:∀ q,q < A.size → 48 ≤ byA A q ∧ byA A q ≤ 57) (hB:∀ q,q < B.size → 48 ≤ byA B q ∧ byA B q ≤ 57):∀ q,q < (A ++ B).size → 48 ≤ byA (A ++ B) q ∧ byA (A ++ B) q ≤ 57:=fun q hq => by
 rw [ByteArray.size_append] at hq
 rw [byA_app]
 split
 ·exact hA q (by assumption)
 ·exact hB _ (by omega)
theorem lastS_ge {s:ByteArray} {v q:Nat} (h:stS s (q + 1) = v):∀ n,q < n → q ≤ lastS s v n
 | 0,hq => by omega
 | n + 1,hq => by
  unfold lastS
  split
  ·omega
  ·rename_i k
   have:q ≠ n:=fun e => k (e ▸ h)
   exact lastS_ge h n (by omega)
theorem first_st (s:ByteArray):stS s 1 ≠ 6 ∧ stS s 1 ≠ 8:=by
 have h:=kdA_lt s 0
 have:∀ k:Fin 8,nxS 1 k.1 ≠ 6 ∧ nxS 1 k.1 ≠ 8:=by decide
 exact this ⟨kdA s 0,h⟩
theorem no_six {s:ByteArray} {g:Bool} {SL LT:Nat} (t:TkOk s g SL 0 LT):∀ q,q ≤ s.size → stS s (q + 1) ≠ 6:=fun q hq h => by
 have h1:=lastS_ge h (s.size + 1) (by omega)
 rw [t.point] at h1
 obtain rfl:q = 0:=by omega
 exact (first_st s).1 h
theorem no_eight {s:ByteArray} {g:Bool} {SL PT:Nat} (t:TkOk s g SL PT 0):∀ q,q ≤ s.size → stS s (q + 1) ≠ 8:=fun q hq h => by
 have h1:=lastS_ge h (s.size + 1) (by omega)
 rw [t.letter] at h1
 obtain rfl:q = 0:=by omega
 exact (first_st s).2 h
section
variable {s:ByteArray} {g:Bool} {i j k e b m PT:Nat}
def Tk (s:ByteArray) (g:Bool) (D:ByteArray) (SL:Nat) (U PL:ByteArray) (LT:Nat) (PW:ByteArray):Prop:=∀ W,TabBh W → Calls Tryz.prog 31 #[.string s] W fun e w' => e = .returned (.tuple #[.agg #[.bool g,.string D,.int .i64 (SL:Nat),.string U,.string PL,.int .i64 (LT:Nat),.string PW],.int .i64 0,.bool true]) ∧ Below W.heap.size W w'
theorem tk_z (h:Hd s g i) (hs:s.size ≤ 65536) (hi:i < s.size) (t:TkOk s g 0 0 0):Tk s g (s.extract i s.size) 0 ⟨#[]⟩ ⟨#[]⟩ 0 ⟨#[]⟩:=fun W hT => by
 have K:=takeApart_z s (s.extract i s.size) W hs hT (fun q hq => ⟨t.fine q hq,no_six t q hq,no_eight t q hq⟩) 0 t.slash rfl (fun V => by
  have:=trim_head h hs hi (Nat.le_refl _) V
  rwa [show s.extract 0 s.size = s from ByteArray.extract_zero_size] at this)
 rw [t.sign] at K
 exact K
theorem tk_n (h:Hd s g i) (hs:s.size ≤ 65536) (hi:i < j) (hj:j < s.size) (t:TkOk s g j 0 0):Tk s g (s.extract i j) j (s.extract (j + 1) s.size) ⟨#[]⟩ 0 ⟨#[]⟩:=fun W hT => by
 have K:=takeApart_n s (s.extract i j) W hs hT (fun q hq => ⟨t.fine q hq,no_six t q hq,no_eight t q hq⟩) j t.slash (by omega) hj (fun V => trim_head h hs hi (by omega) V)
 rw [t.sign] at K
 exact K
theorem tk_p (h:Hd s g i) (hs:s.size ≤ 65536) (hi:i < j) (hj:j < s.size) (t:TkOk s g 0 j 0):Tk s g (s.extract i j) 0 ⟨#[]⟩ (s.extract (j + 1) s.size) 0 ⟨#[]⟩:=fun W hT => by
 have K:=takeApart_p s (s.extract i j) W hs hT t.fine 0 j 0 t.slash t.point t.letter rfl (by omega) rfl hj (fun V => trim_head h hs hi (by omega) V)
 rw [t.sign] at K
 exact K
theorem tk_l (h:Hd s g i) (hs:s.size ≤ 65536) (hi:i < e) (hj:e < s.size) (t:TkOk s g 0 0 e):Tk s g (s.extract i e) 0 ⟨#[]⟩ ⟨#[]⟩ e (s.extract (e + 1) s.size):=fun W hT => by
 have K:=takeApart_l s (s.extract i e) W hs hT t.fine 0 0 e t.slash t.point t.letter rfl rfl (by omega) hj (fun V => trim_head h hs hi (by omega) V)
 rw [t.sign] at K
 exact K
theorem tk_b (h:Hd s g i) (hs:s.size ≤ 65536) (hi:i < j) (hje:j < e) (hj:e < s.size) (t:TkOk s g 0 j e):Tk s g (s.extract i j) 0 ⟨#[]⟩ (s.extract (j + 1) e) e (s.extract (e + 1) s.size):=fun W hT => by
 have K:=takeApart_b s (s.extract i j) W hs hT t.fine 0 j e t.slash t.point t.letter rfl (by omega) (by omega) hje hj (fun V => trim_head h hs hi (by omega) V)
 rw [t.sign] at K
 exact K
structure Pw (s:ByteArray) (a b:Nat) (dn:Bool):Prop where
 lt:b < s.size
 low:48 ≤ byA s b
 or:b = a ∧ dn = false ∨ b = a + 1 ∧ (byA s a = 43 ∧ dn = false ∨ byA s a = 45 ∧ dn = true)
theorem ext_cons (hb:b < s.size):(s.extract b s.size).data.toList = s.data[b]'hb :: (s.extract (b + 1) s.size).data.toList:=by
 have hz:s.data.toList.length = s.size:=by simp
 have e:∀ a,(s.extract a s.size).data.toList = s.data.toList.drop a:=fun a => by
  simp [ByteArray.data_extract]
  exact List.take_of_length_le (by simp)
 rw [e,e,List.drop_eq_getElem_cons (by rw [hz]; exact hb)]
 simp
theorem by_ge (hb:b < s.size):(s.data[b]'hb).toNat = byA s b:=by
 unfold byA
 show _ = (s.data[b]!).toNat
 rw [getElem!_pos s.data b hb]
theorem trim_pw {a:Nat} {dn:Bool} (h:Pw s a b dn):(⟨(Lib.trimLeftS (s.extract a s.size).data.toList [43,45]).toArray⟩:ByteArray) = s.extract b s.size:=by
 have hb:=h.lt
 have h0:Lib.trimLeftS (s.extract b s.size).data.toList [43,45] = (s.extract b s.size).data.toList:=by
  rw [ext_cons hb]
  unfold Lib.trimLeftS
  rw [List.dropWhile_cons_of_neg]
  have h1:=h.low
  rw [← by_ge hb] at h1
  intro k
  simp at k
  rcases k with k | k <;> (rw [k] at h1; simp at h1)
 have h2:Lib.trimLeftS (s.extract a s.size).data.toList [43,45] = (s.extract b s.size).data.toList:=by
  rcases h.or with ⟨rfl,_⟩ | ⟨rfl,hc⟩
  ·exact h0
  ·have ha:a < s.size:=by omega
   rw [ext_cons ha]
   have h3:(s.data[a]'ha).toNat = 43 ∨ (s.data[a]'ha).toNat = 45:=by
    rw [by_ge ha]
    rcases hc with ⟨c,_⟩ | ⟨c,_⟩
    ·exact .inl c
    ·exact .inr c
   have h4:([43,45]:List UInt8).contains (s.data[a]'ha) = true:=by
    rcases h3 with c | c
    ·have:s.data[a]'ha = 43:=UInt8.toNat_inj.1 c
     rw [this]; rfl
    ·have:s.data[a]'ha = 45:=UInt8.toNat_inj.1 c
     rw [this]; rfl
   unfold Lib.trimLeftS at h0 ⊢
   rw [List.dropWhile_cons_of_pos h4]
   exact h0
 rw [h2]
theorem ng_pw {a:Nat} {dn:Bool} (h:Pw s a b dn):(decide (1 ≤ (s.extract a s.size).size) && (((s.extract a s.size).extract 0 1).toList == [45])) = dn:=by
 have hb:=h.lt
 have hab:a ≤ b:=by rcases h.or with ⟨e,_⟩ | ⟨e,_⟩ <;> omega
 have hz:(s.extract a s.size).size = s.size - a:=by rw [ByteArray.size_extract]; omega
 have hf:=first_is (x:=s.extract a s.size) (by omega)
 rw [byA_ext (by omega) (Nat.le_refl _),Nat.add_zero] at hf
 rw [hf,hz,decide_eq_true (by omega),Bool.true_and]
 have hl:=h.low
 rcases h.or with ⟨rfl,rfl⟩ | ⟨rfl,⟨c,rfl⟩ | ⟨c,rfl⟩⟩
 ·exact decide_eq_false (by omega)
 ·exact decide_eq_false (by omega)
 ·exact decide_eq_true c
theorem read_pw {a:Nat} {dn:Bool} (h:Pw s a b dn) (hs:s.size ≤ 65536) (r:RunK s b s.size) (hN:pwB (s.extract b s.size) (s.extract b s.size).size ≤ 4096) (W:World) :
  Calls Tryz.prog 33 #[.string (s.extract a s.size)] W fun e w' => e = .returned (.tuple #[.int .i64 (if dn = true then -(pwB (s.extract b s.size) (s.extract b s.size).size:Int) else (pwB (s.extract b s.size) (s.extract b s.size).size:Int)),.bool true]) ∧ Below W.heap.size W w':=by
 have hz:(s.extract b s.size).size ≤ 65536:=by rw [ByteArray.size_extract]; omega
 cases dn
 ·exact readPower_py _ _ W (ng_pw h) (trim_pw h) hz (run_dig r) hN
 ·exact readPower_my _ _ W (ng_pw h) (trim_pw h) hz (run_dig r) hN
theorem read_pw_no {a:Nat} {dn:Bool} (h:Pw s a b dn) (hs:s.size ≤ 65536) (r:RunK s b s.size) (hN:4096 < pwB (s.extract b s.size) (s.extract b s.size).size) (W:World) :
  Calls Tryz.prog 33 #[.string (s.extract a s.size)] W fun e w' => e = .returned (.tuple #[.int .i64 0,.bool false]) ∧ Below W.heap.size W w':=by
 have hz:(s.extract b s.size).size ≤ 65536:=by rw [ByteArray.size_extract]; omega
 cases dn
 ·exact readPower_pn _ _ W (ng_pw h) (trim_pw h) hz (run_dig r) hN
 ·exact readPower_mn _ _ W (ng_pw h) (trim_pw h) hz (run_dig r) hN
end
end Go.Proofs.YtmnlhnmlgncedaaGreatDoor
