/- Rpr -/
import Derived.Test.YtmnlhnmlgncedaaGreatDoorRpq
namespace Go.Proofs.YtmnlhnmlgncedaaGreatDoor
open Go.RowKit Go.Deep
set_option linter.unusedVariables false
theorem wrap_i64s (x:Int):IntKind.i64.wrap x = (x + 9223372036854775808) % 18446744073709551616 - 9223372036854775808:=by
 simp [IntKind.wrap,IntKind.bits,IntKind.signed]
 split <;> omega
set_option maxRecDepth 100000 in
set_option maxHeartbeats 32000000 in
theorem wparse_long (s:ByteArray) (w:World) (hs:65536 < s.size) :
  Calls Tryz.prog 24 #[.string s] w fun e w' => PsPost w w' false [] [] 65536 4 e:=by
 obtain ⟨wo,hwo⟩:∃ z,w.alloc (.cells #[.bool false,.slice none 0 0,.slice none 0 0] 25) = z:=⟨_,rfl⟩
 have hbo:Below w.heap.size w wo:=by rw [← hwo]; exact bAl
 have hO:=Out.made w
 rw [hwo] at hO
 have HO:=Hj (And.intro hO hbo)
 have HX:=Hj (Below.refl wo.heap.size wo)
 clear hO hbo
 have hs':(65536:Int) < (s.size:Int):=by omega
 clear hs
 go_enter Tryz.func24,Tryz.ntmps24
 have hO8:=(Uh HO).1.keep (Uh HX)
 obtain ⟨j0,u0⟩:=hO8.cells 0 (by decide)
 obtain ⟨j1,u1⟩:=hO8.cells 1 (by decide)
 obtain ⟨j2,u2⟩:=hO8.cells 2 (by decide)
 have v0:=hO8.fz 0 (by decide)
 have v1:=hO8.fz 1 (by decide)
 have v2:=hO8.fz 2 (by decide)
 have HR:=Hj (And.intro (three_set wo w.heap.size (.bool false) (.slice none 0 0) (.slice none 0 0) hO8.cells) (ret_Q (w:=w) (gy:=false) hO8 (sl_nil _) (sl_nil _) (fun p hp => by cases hp) (fun p hp => by cases hp) ((Uh HO).2.trans ((Uh HX).mono (Uh HO).2.size)) (Nat.le_refl _)))
 clear hO8
 go_wp2_with fail
 obtain ⟨⟨t0_,t1_,t2_,cc_⟩,hR⟩:=Uh HR
 generalize ((wo.setCell ⟨w.heap.size,0,none⟩ (.bool false)).setCell ⟨w.heap.size,1,none⟩ (.slice none 0 0)).setCell ⟨w.heap.size,2,none⟩ (.slice none 0 0) = wf at *
 refine bodyPost_ret (by simp [results,Tryz.results24,go_sem,t0_,t1_,t2_]; try rfl) rfl ?_
 exact ⟨_,rfl,hR⟩
set_option maxRecDepth 100000 in
set_option maxHeartbeats 32000000 in
theorem wparse_eB (s:ByteArray) (j:Nat) (w:World) (hs:s.size ≤ 65536) (hz:s.size = 0) (hr:RunK s 0 j) (hj:j = 0) :
  Calls Tryz.prog 24 #[.string s] w fun e w' => PsPost w w' false [] [] 0 5 e:=by
 obtain ⟨wo,hwo⟩:∃ z,w.alloc (.cells #[.bool false,.slice none 0 0,.slice none 0 0] 25) = z:=⟨_,rfl⟩
 have hbo:Below w.heap.size w wo:=by rw [← hwo]; exact bAl
 have hO:=Out.made w
 rw [hwo] at hO
 have HO:=Hj (And.intro hO hbo)
 have HX:=Hj (Below.refl wo.heap.size wo)
 clear hO hbo
 have hs':¬ (65536:Int) < (s.size:Int):=by omega
 have hjt:=hr.top
 have hz':¬ (0:Int) < (s.size:Int):=by omega
 have KD:=Hj (fun (W:World) => wdigEnd_any s 0 j W hs hr)
 clear hr
 go_enter Tryz.func24,Tryz.ntmps24
 go_wp2_with fail
 refine (Uh KD _).mono ?_
 rintro _ _ ⟨rfl,hw⟩
 obtain rfl:=hw.symm
 clear hw KD
 subst hj
 have hO8:=(Uh HO).1.keep (Uh HX)
 obtain ⟨j0,u0⟩:=hO8.cells 0 (by decide)
 obtain ⟨j1,u1⟩:=hO8.cells 1 (by decide)
 obtain ⟨j2,u2⟩:=hO8.cells 2 (by decide)
 have v0:=hO8.fz 0 (by decide)
 have v1:=hO8.fz 1 (by decide)
 have v2:=hO8.fz 2 (by decide)
 have HR:=Hj (And.intro (three_set wo w.heap.size (.bool false) (.slice none 0 0) (.slice none 0 0) hO8.cells) (ret_Q (w:=w) (gy:=false) hO8 (sl_nil _) (sl_nil _) (fun p hp => by cases hp) (fun p hp => by cases hp) ((Uh HO).2.trans ((Uh HX).mono (Uh HO).2.size)) (Nat.le_refl _)))
 clear hO8
 go_wp2_with fail
 obtain ⟨⟨t0_,t1_,t2_,cc_⟩,hR⟩:=Uh HR
 generalize ((wo.setCell ⟨w.heap.size,0,none⟩ (.bool false)).setCell ⟨w.heap.size,1,none⟩ (.slice none 0 0)).setCell ⟨w.heap.size,2,none⟩ (.slice none 0 0) = wf at *
 refine bodyPost_ret (by simp [results,Tryz.results24,go_sem,t0_,t1_,t2_]; try rfl) rfl ?_
 exact ⟨_,rfl,hR⟩
set_option maxRecDepth 100000 in
set_option maxHeartbeats 32000000 in
theorem wparse_mB (s:ByteArray) (j:Nat) (w:World) (hs:s.size ≤ 65536) (hz:0 < s.size) (hm:byA s 0 = 45) (hr:RunK s 1 j) (hj:j = 1) :
  Calls Tryz.prog 24 #[.string s] w fun e w' => PsPost w w' false [] [] 1 5 e:=by
 obtain ⟨wo,hwo⟩:∃ z,w.alloc (.cells #[.bool false,.slice none 0 0,.slice none 0 0] 25) = z:=⟨_,rfl⟩
 have hbo:Below w.heap.size w wo:=by rw [← hwo]; exact bAl
 have hO:=Out.made w
 rw [hwo] at hO
 have HO:=Hj (And.intro hO hbo)
 have HX:=Hj (Below.refl wo.heap.size wo)
 clear hO hbo
 have hs':¬ (65536:Int) < (s.size:Int):=by omega
 have hjt:=hr.top
 have hz':(0:Int) < (s.size:Int):=by omega
 have hg:=byA_get s 0 hz
 have t45:(((s[0]'hz).toNat:Int) == 45) = true:=by rw [hg,hm]; rfl
 have t45':((s[0]'hz).toNat:Int) = 45:=by omega
 clear hg hm
 have KD:=Hj (fun (W:World) => wdigEnd_any s 1 j W hs hr)
 clear hr
 go_enter Tryz.func24,Tryz.ntmps24
 go_wp2_with fail
 refine (Uh KD _).mono ?_
 rintro _ _ ⟨rfl,hw⟩
 obtain rfl:=hw.symm
 clear hw KD
 subst hj
 have hO8:=(Uh HO).1.keep (Uh HX)
 obtain ⟨j0,u0⟩:=hO8.cells 0 (by decide)
 obtain ⟨j1,u1⟩:=hO8.cells 1 (by decide)
 obtain ⟨j2,u2⟩:=hO8.cells 2 (by decide)
 have v0:=hO8.fz 0 (by decide)
 have v1:=hO8.fz 1 (by decide)
 have v2:=hO8.fz 2 (by decide)
 have HR:=Hj (And.intro (three_set wo w.heap.size (.bool false) (.slice none 0 0) (.slice none 0 0) hO8.cells) (ret_Q (w:=w) (gy:=false) hO8 (sl_nil _) (sl_nil _) (fun p hp => by cases hp) (fun p hp => by cases hp) ((Uh HO).2.trans ((Uh HX).mono (Uh HO).2.size)) (Nat.le_refl _)))
 clear hO8
 go_wp2_with fail
 obtain ⟨⟨t0_,t1_,t2_,cc_⟩,hR⟩:=Uh HR
 generalize ((wo.setCell ⟨w.heap.size,0,none⟩ (.bool false)).setCell ⟨w.heap.size,1,none⟩ (.slice none 0 0)).setCell ⟨w.heap.size,2,none⟩ (.slice none 0 0) = wf at *
 refine bodyPost_ret (by simp [results,Tryz.results24,go_sem,t0_,t1_,t2_]; try rfl) rfl ?_
 exact ⟨_,rfl,hR⟩
set_option maxRecDepth 100000 in
set_option maxHeartbeats 32000000 in
theorem wparse_mC1 (s:ByteArray) (j:Nat) (k:Nat) (w:World) (hs:s.size ≤ 65536) (hz:0 < s.size) (hm:byA s 0 = 45) (hr:RunK s 1 j) (hj:1 < j) (hjl:j < s.size) (hk:byA s j = 47) (hr2:RunK s (j + 1) k) (hk2:k = j + 1) :
  Calls Tryz.prog 24 #[.string s] w fun e w' => PsPost w w' false [] [] (k:Nat) 5 e:=by
 obtain ⟨wo,hwo⟩:∃ z,w.alloc (.cells #[.bool false,.slice none 0 0,.slice none 0 0] 25) = z:=⟨_,rfl⟩
 have hbo:Below w.heap.size w wo:=by rw [← hwo]; exact bAl
 have hO:=Out.made w
 rw [hwo] at hO
 have HO:=Hj (And.intro hO hbo)
 have HX:=Hj (Below.refl wo.heap.size wo)
 clear hO hbo
 have hs':¬ (65536:Int) < (s.size:Int):=by omega
 have hjt:=hr.top
 have hz':(0:Int) < (s.size:Int):=by omega
 have hg:=byA_get s 0 hz
 have t45:(((s[0]'hz).toNat:Int) == 45) = true:=by rw [hg,hm]; rfl
 have t45':((s[0]'hz).toNat:Int) = 45:=by omega
 clear hg hm
 have KD:=Hj (fun (W:World) => wdigEnd_any s 1 j W hs hr)
 clear hr
 go_enter Tryz.func24,Tryz.ntmps24
 go_wp2_with fail
 refine (Uh KD _).mono ?_
 rintro _ _ ⟨rfl,hw⟩
 obtain rfl:=hw.symm
 clear hw KD
 have tj:((j:Int) == 1) = false:=by simp; omega
 have tl:(j:Int) < (s.size:Int):=by omega
 have hgj:=byA_get s j hjl
 have t47:(((s[j]'hjl).toNat:Int) == 47) = true:=by rw [hgj,hk]; rfl
 have t47':((s[j]'hjl).toNat:Int) = 47:=by omega
 clear hgj
 have KD2:=Hj (fun (W:World) => wdigEnd_any s (j + 1) k W hs hr2)
 have hkt:=hr2.top
 clear hr2
 go_wp2_with fail
 refine (Uh KD2 _).mono ?_
 rintro _ _ ⟨rfl,hw⟩
 obtain rfl:=hw.symm
 clear hw KD2
 have tk:((k:Int) == (j:Int) + 1) = true:=by simp; omega
 have HK2:=Hj hk2
 clear hk2
 have hO8:=(Uh HO).1.keep (Uh HX)
 obtain ⟨j0,u0⟩:=hO8.cells 0 (by decide)
 obtain ⟨j1,u1⟩:=hO8.cells 1 (by decide)
 obtain ⟨j2,u2⟩:=hO8.cells 2 (by decide)
 have v0:=hO8.fz 0 (by decide)
 have v1:=hO8.fz 1 (by decide)
 have v2:=hO8.fz 2 (by decide)
 have HR:=Hj (And.intro (three_set wo w.heap.size (.bool false) (.slice none 0 0) (.slice none 0 0) hO8.cells) (ret_Q (w:=w) (gy:=false) hO8 (sl_nil _) (sl_nil _) (fun p hp => by cases hp) (fun p hp => by cases hp) ((Uh HO).2.trans ((Uh HX).mono (Uh HO).2.size)) (Nat.le_refl _)))
 clear hO8
 go_wp2_with fail
 obtain ⟨⟨t0_,t1_,t2_,cc_⟩,hR⟩:=Uh HR
 generalize ((wo.setCell ⟨w.heap.size,0,none⟩ (.bool false)).setCell ⟨w.heap.size,1,none⟩ (.slice none 0 0)).setCell ⟨w.heap.size,2,none⟩ (.slice none 0 0) = wf at *
 refine bodyPost_ret (by simp [results,Tryz.results24,go_sem,t0_,t1_,t2_]; try rfl) rfl ?_
 exact ⟨_,rfl,hR⟩
set_option maxRecDepth 100000 in
set_option maxHeartbeats 32000000 in
theorem wparse_mC4 (s:ByteArray) (j:Nat) (k:Nat) (w:World) (hs:s.size ≤ 65536) (hz:0 < s.size) (hm:byA s 0 = 45) (hr:RunK s 1 j) (hj:1 < j) (hjl:j < s.size) (hk:byA s j = 47) (hr2:RunK s (j + 1) k) (hk2:j + 1 < k) (hkl:k < s.size) :
  Calls Tryz.prog 24 #[.string s] w fun e w' => PsPost w w' false [] [] (k:Nat) 5 e:=by
 obtain ⟨wo,hwo⟩:∃ z,w.alloc (.cells #[.bool false,.slice none 0 0,.slice none 0 0] 25) = z:=⟨_,rfl⟩
 have hbo:Below w.heap.size w wo:=by rw [← hwo]; exact bAl
 have hO:=Out.made w
 rw [hwo] at hO
 have HO:=Hj (And.intro hO hbo)
 have HX:=Hj (Below.refl wo.heap.size wo)
 clear hO hbo
 have hs':¬ (65536:Int) < (s.size:Int):=by omega
 have hjt:=hr.top
 have hz':(0:Int) < (s.size:Int):=by omega
 have hg:=byA_get s 0 hz
 have t45:(((s[0]'hz).toNat:Int) == 45) = true:=by rw [hg,hm]; rfl
 have t45':((s[0]'hz).toNat:Int) = 45:=by omega
 clear hg hm
 have KD:=Hj (fun (W:World) => wdigEnd_any s 1 j W hs hr)
 clear hr
 go_enter Tryz.func24,Tryz.ntmps24
 go_wp2_with fail
 refine (Uh KD _).mono ?_
 rintro _ _ ⟨rfl,hw⟩
 obtain rfl:=hw.symm
 clear hw KD
 have tj:((j:Int) == 1) = false:=by simp; omega
 have tl:(j:Int) < (s.size:Int):=by omega
 have hgj:=byA_get s j hjl
 have t47:(((s[j]'hjl).toNat:Int) == 47) = true:=by rw [hgj,hk]; rfl
 have t47':((s[j]'hjl).toNat:Int) = 47:=by omega
 clear hgj
 have KD2:=Hj (fun (W:World) => wdigEnd_any s (j + 1) k W hs hr2)
 have hkt:=hr2.top
 clear hr2
 go_wp2_with fail
 refine (Uh KD2 _).mono ?_
 rintro _ _ ⟨rfl,hw⟩
 obtain rfl:=hw.symm
 clear hw KD2
 have tk:((k:Int) == (j:Int) + 1) = false:=by simp; omega
 have tkl:(k:Int) < (s.size:Int):=by omega
 have hO8:=(Uh HO).1.keep (Uh HX)
 obtain ⟨j0,u0⟩:=hO8.cells 0 (by decide)
 obtain ⟨j1,u1⟩:=hO8.cells 1 (by decide)
 obtain ⟨j2,u2⟩:=hO8.cells 2 (by decide)
 have v0:=hO8.fz 0 (by decide)
 have v1:=hO8.fz 1 (by decide)
 have v2:=hO8.fz 2 (by decide)
 have HR:=Hj (And.intro (three_set wo w.heap.size (.bool false) (.slice none 0 0) (.slice none 0 0) hO8.cells) (ret_Q (w:=w) (gy:=false) hO8 (sl_nil _) (sl_nil _) (fun p hp => by cases hp) (fun p hp => by cases hp) ((Uh HO).2.trans ((Uh HX).mono (Uh HO).2.size)) (Nat.le_refl _)))
 clear hO8
 go_wp2_with fail
 obtain ⟨⟨t0_,t1_,t2_,cc_⟩,hR⟩:=Uh HR
 generalize ((wo.setCell ⟨w.heap.size,0,none⟩ (.bool false)).setCell ⟨w.heap.size,1,none⟩ (.slice none 0 0)).setCell ⟨w.heap.size,2,none⟩ (.slice none 0 0) = wf at *
 refine bodyPost_ret (by simp [results,Tryz.results24,go_sem,t0_,t1_,t2_]; try rfl) rfl ?_
 exact ⟨_,rfl,hR⟩
set_option maxRecDepth 100000 in
set_option maxHeartbeats 32000000 in
theorem wparse_mC2 (s:ByteArray) (j:Nat) (k:Nat) (w:World) (hs:s.size ≤ 65536) (hz:0 < s.size) (hm:byA s 0 = 45) (hr:RunK s 1 j) (hj:1 < j) (hjl:j < s.size) (hk:byA s j = 47) (hr2:RunK s (j + 1) k) (hk2:j + 1 < k) (hkl:k = s.size) (z:Nat) (hzr:Zr (s.extract (j + 1) s.size) z) (hze:((s.extract (j + 1) s.size).extract z (s.extract (j + 1) s.size).size).size = 0) :
  Calls Tryz.prog 24 #[.string s] w fun e w' => PsPost w w' false [] [] (j:Nat) 3 e:=by
 obtain ⟨wo,hwo⟩:∃ z,w.alloc (.cells #[.bool false,.slice none 0 0,.slice none 0 0] 25) = z:=⟨_,rfl⟩
 have hbo:Below w.heap.size w wo:=by rw [← hwo]; exact bAl
 have hO:=Out.made w
 rw [hwo] at hO
 have HO:=Hj (And.intro hO hbo)
 have HX:=Hj (Below.refl wo.heap.size wo)
 clear hO hbo
 have hs':¬ (65536:Int) < (s.size:Int):=by omega
 have hjt:=hr.top
 have hz':(0:Int) < (s.size:Int):=by omega
 have hg:=byA_get s 0 hz
 have t45:(((s[0]'hz).toNat:Int) == 45) = true:=by rw [hg,hm]; rfl
 have t45':((s[0]'hz).toNat:Int) = 45:=by omega
 clear hg hm
 have KD:=Hj (fun (W:World) => wdigEnd_any s 1 j W hs hr)
 clear hr
 go_enter Tryz.func24,Tryz.ntmps24
 go_wp2_with fail
 refine (Uh KD _).mono ?_
 rintro _ _ ⟨rfl,hw⟩
 obtain rfl:=hw.symm
 clear hw KD
 have tj:((j:Int) == 1) = false:=by simp; omega
 have tl:(j:Int) < (s.size:Int):=by omega
 have hgj:=byA_get s j hjl
 have t47:(((s[j]'hjl).toNat:Int) == 47) = true:=by rw [hgj,hk]; rfl
 have t47':((s[j]'hjl).toNat:Int) = 47:=by omega
 clear hgj
 have KD2:=Hj (fun (W:World) => wdigEnd_any s (j + 1) k W hs hr2)
 have hkt:=hr2.top
 clear hr2
 go_wp2_with fail
 refine (Uh KD2 _).mono ?_
 rintro _ _ ⟨rfl,hw⟩
 obtain rfl:=hw.symm
 clear hw KD2
 have tk:((k:Int) == (j:Int) + 1) = false:=by simp; omega
 have tkl:¬ (k:Int) < (s.size:Int):=by omega
 have tj1:(j:Int) + 1 ≤ (s.size:Int):=by omega
 have HUs:(s.extract (j + 1) s.size).size ≤ 65536:=by rw [ByteArray.size_extract]; omega
 have KB:=Hj (fun (W:World) => wbare_any (s.extract (j + 1) s.size) z W HUs hzr)
 have te:=str_nil hze
 generalize (s.extract (j + 1) s.size).extract z (s.extract (j + 1) s.size).size = R at *
 obtain ⟨T,hT⟩:∃ T,s.extract (j + 1) s.size = T:=⟨_,rfl⟩
 rw [hT] at KB
 have HTT:=Hj hT
 clear hzr HUs hT hze hkl
 go_wp2_with fail
 try rw [Uh HTT]
 refine (Uh KB _).mono ?_
 rintro _ _ ⟨rfl,hw⟩
 obtain rfl:=hw.symm
 clear hw KB
 have hO8:=(Uh HO).1.keep (Uh HX)
 obtain ⟨j0,u0⟩:=hO8.cells 0 (by decide)
 obtain ⟨j1,u1⟩:=hO8.cells 1 (by decide)
 obtain ⟨j2,u2⟩:=hO8.cells 2 (by decide)
 have v0:=hO8.fz 0 (by decide)
 have v1:=hO8.fz 1 (by decide)
 have v2:=hO8.fz 2 (by decide)
 have HR:=Hj (And.intro (three_set wo w.heap.size (.bool false) (.slice none 0 0) (.slice none 0 0) hO8.cells) (ret_Q (w:=w) (gy:=false) hO8 (sl_nil _) (sl_nil _) (fun p hp => by cases hp) (fun p hp => by cases hp) ((Uh HO).2.trans ((Uh HX).mono (Uh HO).2.size)) (Nat.le_refl _)))
 clear hO8
 go_wp2_with fail
 obtain ⟨⟨t0_,t1_,t2_,cc_⟩,hR⟩:=Uh HR
 generalize ((wo.setCell ⟨w.heap.size,0,none⟩ (.bool false)).setCell ⟨w.heap.size,1,none⟩ (.slice none 0 0)).setCell ⟨w.heap.size,2,none⟩ (.slice none 0 0) = wf at *
 refine bodyPost_ret (by simp [results,Tryz.results24,go_sem,t0_,t1_,t2_]; try rfl) rfl ?_
 exact ⟨_,rfl,hR⟩
set_option maxRecDepth 100000 in
set_option maxHeartbeats 32000000 in
theorem wparse_mC3 (s:ByteArray) (j:Nat) (k:Nat) (w:World) (hs:s.size ≤ 65536) (hz:0 < s.size) (hm:byA s 0 = 45) (hr:RunK s 1 j) (hj:1 < j) (hjl:j < s.size) (hk:byA s j = 47) (hr2:RunK s (j + 1) k) (hk2:j + 1 < k) (hkl:k = s.size) (z:Nat) (hzr:Zr (s.extract (j + 1) s.size) z) (hze:¬ ((s.extract (j + 1) s.size).extract z (s.extract (j + 1) s.size).size).size = 0) (rg:Bool) (rx ry:List Nat) (ra re:Int) (hW:∀ W,Calls Tryz.prog 60 #[.bool true,.string (s.extract 1 j),.int .i64 0,.string (s.extract (j + 1) s.size),.int .i64 0] W fun e w' => PsPost W w' rg rx ry ra re e) :
  Calls Tryz.prog 24 #[.string s] w fun e w' => PsPost w w' rg rx ry ra re e:=by
 obtain ⟨wo,hwo⟩:∃ z,w.alloc (.cells #[.bool false,.slice none 0 0,.slice none 0 0] 25) = z:=⟨_,rfl⟩
 have hbo:Below w.heap.size w wo:=by rw [← hwo]; exact bAl
 have hO:=Out.made w
 rw [hwo] at hO
 have HO:=Hj (And.intro hO hbo)
 have HX:=Hj (Below.refl wo.heap.size wo)
 clear hO hbo
 have hs':¬ (65536:Int) < (s.size:Int):=by omega
 have hjt:=hr.top
 have hz':(0:Int) < (s.size:Int):=by omega
 have hg:=byA_get s 0 hz
 have t45:(((s[0]'hz).toNat:Int) == 45) = true:=by rw [hg,hm]; rfl
 have t45':((s[0]'hz).toNat:Int) = 45:=by omega
 clear hg hm
 have KD:=Hj (fun (W:World) => wdigEnd_any s 1 j W hs hr)
 clear hr
 go_enter Tryz.func24,Tryz.ntmps24
 go_wp2_with fail
 refine (Uh KD _).mono ?_
 rintro _ _ ⟨rfl,hw⟩
 obtain rfl:=hw.symm
 clear hw KD
 have tj:((j:Int) == 1) = false:=by simp; omega
 have tl:(j:Int) < (s.size:Int):=by omega
 have hgj:=byA_get s j hjl
 have t47:(((s[j]'hjl).toNat:Int) == 47) = true:=by rw [hgj,hk]; rfl
 have t47':((s[j]'hjl).toNat:Int) = 47:=by omega
 clear hgj
 have KD2:=Hj (fun (W:World) => wdigEnd_any s (j + 1) k W hs hr2)
 have hkt:=hr2.top
 clear hr2
 go_wp2_with fail
 refine (Uh KD2 _).mono ?_
 rintro _ _ ⟨rfl,hw⟩
 obtain rfl:=hw.symm
 clear hw KD2
 have tk:((k:Int) == (j:Int) + 1) = false:=by simp; omega
 have tkl:¬ (k:Int) < (s.size:Int):=by omega
 have tj1:(j:Int) + 1 ≤ (s.size:Int):=by omega
 have HUs:(s.extract (j + 1) s.size).size ≤ 65536:=by rw [ByteArray.size_extract]; omega
 have KB:=Hj (fun (W:World) => wbare_any (s.extract (j + 1) s.size) z W HUs hzr)
 have te:=str_some hze
 generalize (s.extract (j + 1) s.size).extract z (s.extract (j + 1) s.size).size = R at *
 obtain ⟨T,hT⟩:∃ T,s.extract (j + 1) s.size = T:=⟨_,rfl⟩
 rw [hT] at KB
 have HTT:=Hj hT
 clear hzr HUs hT hze hkl
 go_wp2_with fail
 try rw [Uh HTT]
 refine (Uh KB _).mono ?_
 rintro _ _ ⟨rfl,hw⟩
 obtain rfl:=hw.symm
 clear hw KB
 have HW:=Hj hW
 clear hW
 have tij:(1:Int) ≤ (j:Int):=by omega
 have tjs:(j:Int) ≤ (s.size:Int):=by omega
 have tw:IntKind.i64.wrap ((j:Int) + 1) = (j:Int) + 1:=by rw [wrap_i64s]; omega
 go_wp2_with fail
 go_region_with (go_at_call 60; refine (Uh HW _).mono ?_; rintro _ w8 ⟨v8,rfl,aN,mN,cN,aD,mD,cD,rfl,sN,sD,nN,nD,b8⟩; unfold ratV; have b9:Below wo.heap.size wo w8:=(Below.refl _ _).drew.trans b8; have hO8:=(Uh HO).1.keep b9; obtain ⟨j0,u0⟩:=hO8.cells 0 (by decide); obtain ⟨j1,u1⟩:=hO8.cells 1 (by decide); obtain ⟨j2,u2⟩:=hO8.cells 2 (by decide); have v0:=hO8.fz 0 (by decide); have v1:=hO8.fz 1 (by decide); have v2:=hO8.fz 2 (by decide); have hzo:=(Uh HO).1.lt; have hzd:wo.drew.heap.size = wo.heap.size:=rfl; have HR:=Hj (And.intro (three_set w8 w.heap.size (.bool rg) (.slice aN mN cN) (.slice aD mD cD) hO8.cells) (ret_Q (w:=w) (gy:=rg) hO8 sN sD (fun p hp => by have:=nN p hp; omega) (fun p hp => by have:=nD p hp; omega) ((Uh HO).2.trans (b9.mono (Uh HO).2.size)) (Nat.le_refl _))); clear hO8 sN sD nN nD b8 b9 hzo hzd)
 go_wp2_with fail
 obtain ⟨⟨t0_,t1_,t2_,cc_⟩,hR⟩:=Uh HR
 generalize ((w8.setCell ⟨w.heap.size,0,none⟩ (.bool rg)).setCell ⟨w.heap.size,1,none⟩ (.slice aN mN cN)).setCell ⟨w.heap.size,2,none⟩ (.slice aD mD cD) = wf at *
 refine bodyPost_ret (by simp [results,Tryz.results24,go_sem,t0_,t1_,t2_]; try rfl) rfl ?_
 exact ⟨_,rfl,hR⟩
set_option maxRecDepth 100000 in
set_option maxHeartbeats 32000000 in
theorem wparse_mD1 (s:ByteArray) (j:Nat) (w:World) (hs:s.size ≤ 65536) (hz:0 < s.size) (hm:byA s 0 = 45) (hr:RunK s 1 j) (hj:1 < j) (hjl:j = s.size) (rg:Bool) (rx ry:List Nat) (ra re:Int) (hW:∀ W,Calls Tryz.prog 61 #[.string s,.bool true,.int .i64 1,.int .i64 (j:Nat)] W fun e w' => PsPost W w' rg rx ry ra re e) :
  Calls Tryz.prog 24 #[.string s] w fun e w' => PsPost w w' rg rx ry ra re e:=by
 obtain ⟨wo,hwo⟩:∃ z,w.alloc (.cells #[.bool false,.slice none 0 0,.slice none 0 0] 25) = z:=⟨_,rfl⟩
 have hbo:Below w.heap.size w wo:=by rw [← hwo]; exact bAl
 have hO:=Out.made w
 rw [hwo] at hO
 have HO:=Hj (And.intro hO hbo)
 have HX:=Hj (Below.refl wo.heap.size wo)
 clear hO hbo
 have hs':¬ (65536:Int) < (s.size:Int):=by omega
 have hjt:=hr.top
 have hz':(0:Int) < (s.size:Int):=by omega
 have hg:=byA_get s 0 hz
 have t45:(((s[0]'hz).toNat:Int) == 45) = true:=by rw [hg,hm]; rfl
 have t45':((s[0]'hz).toNat:Int) = 45:=by omega
 clear hg hm
 have KD:=Hj (fun (W:World) => wdigEnd_any s 1 j W hs hr)
 clear hr
 go_enter Tryz.func24,Tryz.ntmps24
 go_wp2_with fail
 refine (Uh KD _).mono ?_
 rintro _ _ ⟨rfl,hw⟩
 obtain rfl:=hw.symm
 clear hw KD
 have tj:((j:Int) == 1) = false:=by simp; omega
 have tl:¬ (j:Int) < (s.size:Int):=by omega
 clear hjl
 have HW:=Hj hW
 clear hW
 go_wp2_with fail
 refine (Uh HW _).mono ?_
 rintro _ w8 ⟨v8,rfl,aN,mN,cN,aD,mD,cD,rfl,sN,sD,nN,nD,b8⟩
 unfold ratV
 have hO8:=(Uh HO).1.keep b8
 obtain ⟨j0,u0⟩:=hO8.cells 0 (by decide)
 obtain ⟨j1,u1⟩:=hO8.cells 1 (by decide)
 obtain ⟨j2,u2⟩:=hO8.cells 2 (by decide)
 have v0:=hO8.fz 0 (by decide)
 have v1:=hO8.fz 1 (by decide)
 have v2:=hO8.fz 2 (by decide)
 have hzo:=(Uh HO).1.lt
 have HR:=Hj (And.intro (three_set w8 w.heap.size (.bool rg) (.slice aN mN cN) (.slice aD mD cD) hO8.cells) (ret_Q (w:=w) (gy:=rg) hO8 sN sD (fun p hp => by have:=nN p hp; omega) (fun p hp => by have:=nD p hp; omega) ((Uh HO).2.trans (b8.mono (Uh HO).2.size)) (Nat.le_refl _)))
 clear hO8 sN sD nN nD b8 hzo
 go_wp2_with fail
 obtain ⟨⟨t0_,t1_,t2_,cc_⟩,hR⟩:=Uh HR
 generalize ((w8.setCell ⟨w.heap.size,0,none⟩ (.bool rg)).setCell ⟨w.heap.size,1,none⟩ (.slice aN mN cN)).setCell ⟨w.heap.size,2,none⟩ (.slice aD mD cD) = wf at *
 refine bodyPost_ret (by simp [results,Tryz.results24,go_sem,t0_,t1_,t2_]; try rfl) rfl ?_
 exact ⟨_,rfl,hR⟩
set_option maxRecDepth 100000 in
set_option maxHeartbeats 32000000 in
theorem wparse_mD2 (s:ByteArray) (j:Nat) (w:World) (hs:s.size ≤ 65536) (hz:0 < s.size) (hm:byA s 0 = 45) (hr:RunK s 1 j) (hj:1 < j) (hjl:j < s.size) (hk:byA s j ≠ 47) (rg:Bool) (rx ry:List Nat) (ra re:Int) (hW:∀ W,Calls Tryz.prog 61 #[.string s,.bool true,.int .i64 1,.int .i64 (j:Nat)] W fun e w' => PsPost W w' rg rx ry ra re e) :
  Calls Tryz.prog 24 #[.string s] w fun e w' => PsPost w w' rg rx ry ra re e:=by
 obtain ⟨wo,hwo⟩:∃ z,w.alloc (.cells #[.bool false,.slice none 0 0,.slice none 0 0] 25) = z:=⟨_,rfl⟩
 have hbo:Below w.heap.size w wo:=by rw [← hwo]; exact bAl
 have hO:=Out.made w
 rw [hwo] at hO
 have HO:=Hj (And.intro hO hbo)
 have HX:=Hj (Below.refl wo.heap.size wo)
 clear hO hbo
 have hs':¬ (65536:Int) < (s.size:Int):=by omega
 have hjt:=hr.top
 have hz':(0:Int) < (s.size:Int):=by omega
 have hg:=byA_get s 0 hz
 have t45:(((s[0]'hz).toNat:Int) == 45) = true:=by rw [hg,hm]; rfl
 have t45':((s[0]'hz).toNat:Int) = 45:=by omega
 clear hg hm
 have KD:=Hj (fun (W:World) => wdigEnd_any s 1 j W hs hr)
 clear hr
 go_enter Tryz.func24,Tryz.ntmps24
 go_wp2_with fail
 refine (Uh KD _).mono ?_
 rintro _ _ ⟨rfl,hw⟩
 obtain rfl:=hw.symm
 clear hw KD
 have tj:((j:Int) == 1) = false:=by simp; omega
 have tl:(j:Int) < (s.size:Int):=by omega
 have hgj:=byA_get s j hjl
 have t47:(((s[j]'hjl).toNat:Int) == 47) = false:=by simp; omega
 have t47':¬ ((s[j]'hjl).toNat:Int) = 47:=by omega
 clear hgj
 have HW:=Hj hW
 clear hW
 go_wp2_with fail
 refine (Uh HW _).mono ?_
 rintro _ w8 ⟨v8,rfl,aN,mN,cN,aD,mD,cD,rfl,sN,sD,nN,nD,b8⟩
 unfold ratV
 have hO8:=(Uh HO).1.keep b8
 obtain ⟨j0,u0⟩:=hO8.cells 0 (by decide)
 obtain ⟨j1,u1⟩:=hO8.cells 1 (by decide)
 obtain ⟨j2,u2⟩:=hO8.cells 2 (by decide)
 have v0:=hO8.fz 0 (by decide)
 have v1:=hO8.fz 1 (by decide)
 have v2:=hO8.fz 2 (by decide)
 have hzo:=(Uh HO).1.lt
 have HR:=Hj (And.intro (three_set w8 w.heap.size (.bool rg) (.slice aN mN cN) (.slice aD mD cD) hO8.cells) (ret_Q (w:=w) (gy:=rg) hO8 sN sD (fun p hp => by have:=nN p hp; omega) (fun p hp => by have:=nD p hp; omega) ((Uh HO).2.trans (b8.mono (Uh HO).2.size)) (Nat.le_refl _)))
 clear hO8 sN sD nN nD b8 hzo
 go_wp2_with fail
 obtain ⟨⟨t0_,t1_,t2_,cc_⟩,hR⟩:=Uh HR
 generalize ((w8.setCell ⟨w.heap.size,0,none⟩ (.bool rg)).setCell ⟨w.heap.size,1,none⟩ (.slice aN mN cN)).setCell ⟨w.heap.size,2,none⟩ (.slice aD mD cD) = wf at *
 refine bodyPost_ret (by simp [results,Tryz.results24,go_sem,t0_,t1_,t2_]; try rfl) rfl ?_
 exact ⟨_,rfl,hR⟩
set_option maxRecDepth 100000 in
set_option maxHeartbeats 32000000 in
theorem wparse_pB (s:ByteArray) (j:Nat) (w:World) (hs:s.size ≤ 65536) (hz:0 < s.size) (hm:byA s 0 ≠ 45) (hr:RunK s 0 j) (hj:j = 0) :
  Calls Tryz.prog 24 #[.string s] w fun e w' => PsPost w w' false [] [] 0 5 e:=by
 obtain ⟨wo,hwo⟩:∃ z,w.alloc (.cells #[.bool false,.slice none 0 0,.slice none 0 0] 25) = z:=⟨_,rfl⟩
 have hbo:Below w.heap.size w wo:=by rw [← hwo]; exact bAl
 have hO:=Out.made w
 rw [hwo] at hO
 have HO:=Hj (And.intro hO hbo)
 have HX:=Hj (Below.refl wo.heap.size wo)
 clear hO hbo
 have hs':¬ (65536:Int) < (s.size:Int):=by omega
 have hjt:=hr.top
 have hz':(0:Int) < (s.size:Int):=by omega
 have hg:=byA_get s 0 hz
 have t45:(((s[0]'hz).toNat:Int) == 45) = false:=by simp; omega
 have t45':¬ ((s[0]'hz).toNat:Int) = 45:=by omega
 clear hg hm
 have KD:=Hj (fun (W:World) => wdigEnd_any s 0 j W hs hr)
 clear hr
 go_enter Tryz.func24,Tryz.ntmps24
 go_wp2_with fail
 refine (Uh KD _).mono ?_
 rintro _ _ ⟨rfl,hw⟩
 obtain rfl:=hw.symm
 clear hw KD
 subst hj
 have hO8:=(Uh HO).1.keep (Uh HX)
 obtain ⟨j0,u0⟩:=hO8.cells 0 (by decide)
 obtain ⟨j1,u1⟩:=hO8.cells 1 (by decide)
 obtain ⟨j2,u2⟩:=hO8.cells 2 (by decide)
 have v0:=hO8.fz 0 (by decide)
 have v1:=hO8.fz 1 (by decide)
 have v2:=hO8.fz 2 (by decide)
 have HR:=Hj (And.intro (three_set wo w.heap.size (.bool false) (.slice none 0 0) (.slice none 0 0) hO8.cells) (ret_Q (w:=w) (gy:=false) hO8 (sl_nil _) (sl_nil _) (fun p hp => by cases hp) (fun p hp => by cases hp) ((Uh HO).2.trans ((Uh HX).mono (Uh HO).2.size)) (Nat.le_refl _)))
 clear hO8
 go_wp2_with fail
 obtain ⟨⟨t0_,t1_,t2_,cc_⟩,hR⟩:=Uh HR
 generalize ((wo.setCell ⟨w.heap.size,0,none⟩ (.bool false)).setCell ⟨w.heap.size,1,none⟩ (.slice none 0 0)).setCell ⟨w.heap.size,2,none⟩ (.slice none 0 0) = wf at *
 refine bodyPost_ret (by simp [results,Tryz.results24,go_sem,t0_,t1_,t2_]; try rfl) rfl ?_
 exact ⟨_,rfl,hR⟩
set_option maxRecDepth 100000 in
set_option maxHeartbeats 32000000 in
theorem wparse_pC1 (s:ByteArray) (j:Nat) (k:Nat) (w:World) (hs:s.size ≤ 65536) (hz:0 < s.size) (hm:byA s 0 ≠ 45) (hr:RunK s 0 j) (hj:0 < j) (hjl:j < s.size) (hk:byA s j = 47) (hr2:RunK s (j + 1) k) (hk2:k = j + 1) :
  Calls Tryz.prog 24 #[.string s] w fun e w' => PsPost w w' false [] [] (k:Nat) 5 e:=by
 obtain ⟨wo,hwo⟩:∃ z,w.alloc (.cells #[.bool false,.slice none 0 0,.slice none 0 0] 25) = z:=⟨_,rfl⟩
 have hbo:Below w.heap.size w wo:=by rw [← hwo]; exact bAl
 have hO:=Out.made w
 rw [hwo] at hO
 have HO:=Hj (And.intro hO hbo)
 have HX:=Hj (Below.refl wo.heap.size wo)
 clear hO hbo
 have hs':¬ (65536:Int) < (s.size:Int):=by omega
 have hjt:=hr.top
 have hz':(0:Int) < (s.size:Int):=by omega
 have hg:=byA_get s 0 hz
 have t45:(((s[0]'hz).toNat:Int) == 45) = false:=by simp; omega
 have t45':¬ ((s[0]'hz).toNat:Int) = 45:=by omega
 clear hg hm
 have KD:=Hj (fun (W:World) => wdigEnd_any s 0 j W hs hr)
 clear hr
 go_enter Tryz.func24,Tryz.ntmps24
 go_wp2_with fail
 refine (Uh KD _).mono ?_
 rintro _ _ ⟨rfl,hw⟩
 obtain rfl:=hw.symm
 clear hw KD
 have tj:((j:Int) == 0) = false:=by simp; omega
 have tl:(j:Int) < (s.size:Int):=by omega
 have hgj:=byA_get s j hjl
 have t47:(((s[j]'hjl).toNat:Int) == 47) = true:=by rw [hgj,hk]; rfl
 have t47':((s[j]'hjl).toNat:Int) = 47:=by omega
 clear hgj
 have KD2:=Hj (fun (W:World) => wdigEnd_any s (j + 1) k W hs hr2)
 have hkt:=hr2.top
 clear hr2
 go_wp2_with fail
 refine (Uh KD2 _).mono ?_
 rintro _ _ ⟨rfl,hw⟩
 obtain rfl:=hw.symm
 clear hw KD2
 have tk:((k:Int) == (j:Int) + 1) = true:=by simp; omega
 have HK2:=Hj hk2
 clear hk2
 have hO8:=(Uh HO).1.keep (Uh HX)
 obtain ⟨j0,u0⟩:=hO8.cells 0 (by decide)
 obtain ⟨j1,u1⟩:=hO8.cells 1 (by decide)
 obtain ⟨j2,u2⟩:=hO8.cells 2 (by decide)
 have v0:=hO8.fz 0 (by decide)
 have v1:=hO8.fz 1 (by decide)
 have v2:=hO8.fz 2 (by decide)
 have HR:=Hj (And.intro (three_set wo w.heap.size (.bool false) (.slice none 0 0) (.slice none 0 0) hO8.cells) (ret_Q (w:=w) (gy:=false) hO8 (sl_nil _) (sl_nil _) (fun p hp => by cases hp) (fun p hp => by cases hp) ((Uh HO).2.trans ((Uh HX).mono (Uh HO).2.size)) (Nat.le_refl _)))
 clear hO8
 go_wp2_with fail
 obtain ⟨⟨t0_,t1_,t2_,cc_⟩,hR⟩:=Uh HR
 generalize ((wo.setCell ⟨w.heap.size,0,none⟩ (.bool false)).setCell ⟨w.heap.size,1,none⟩ (.slice none 0 0)).setCell ⟨w.heap.size,2,none⟩ (.slice none 0 0) = wf at *
 refine bodyPost_ret (by simp [results,Tryz.results24,go_sem,t0_,t1_,t2_]; try rfl) rfl ?_
 exact ⟨_,rfl,hR⟩
set_option maxRecDepth 100000 in
set_option maxHeartbeats 32000000 in
theorem wparse_pC4 (s:ByteArray) (j:Nat) (k:Nat) (w:World) (hs:s.size ≤ 65536) (hz:0 < s.size) (hm:byA s 0 ≠ 45) (hr:RunK s 0 j) (hj:0 < j) (hjl:j < s.size) (hk:byA s j = 47) (hr2:RunK s (j + 1) k) (hk2:j + 1 < k) (hkl:k < s.size) :
  Calls Tryz.prog 24 #[.string s] w fun e w' => PsPost w w' false [] [] (k:Nat) 5 e:=by
 obtain ⟨wo,hwo⟩:∃ z,w.alloc (.cells #[.bool false,.slice none 0 0,.slice none 0 0] 25) = z:=⟨_,rfl⟩
 have hbo:Below w.heap.size w wo:=by rw [← hwo]; exact bAl
 have hO:=Out.made w
 rw [hwo] at hO
 have HO:=Hj (And.intro hO hbo)
 have HX:=Hj (Below.refl wo.heap.size wo)
 clear hO hbo
 have hs':¬ (65536:Int) < (s.size:Int):=by omega
 have hjt:=hr.top
 have hz':(0:Int) < (s.size:Int):=by omega
 have hg:=byA_get s 0 hz
 have t45:(((s[0]'hz).toNat:Int) == 45) = false:=by simp; omega
 have t45':¬ ((s[0]'hz).toNat:Int) = 45:=by omega
 clear hg hm
 have KD:=Hj (fun (W:World) => wdigEnd_any s 0 j W hs hr)
 clear hr
 go_enter Tryz.func24,Tryz.ntmps24
 go_wp2_with fail
 refine (Uh KD _).mono ?_
 rintro _ _ ⟨rfl,hw⟩
 obtain rfl:=hw.symm
 clear hw KD
 have tj:((j:Int) == 0) = false:=by simp; omega
 have tl:(j:Int) < (s.size:Int):=by omega
 have hgj:=byA_get s j hjl
 have t47:(((s[j]'hjl).toNat:Int) == 47) = true:=by rw [hgj,hk]; rfl
 have t47':((s[j]'hjl).toNat:Int) = 47:=by omega
 clear hgj
 have KD2:=Hj (fun (W:World) => wdigEnd_any s (j + 1) k W hs hr2)
 have hkt:=hr2.top
 clear hr2
 go_wp2_with fail
 refine (Uh KD2 _).mono ?_
 rintro _ _ ⟨rfl,hw⟩
 obtain rfl:=hw.symm
 clear hw KD2
 have tk:((k:Int) == (j:Int) + 1) = false:=by simp; omega
 have tkl:(k:Int) < (s.size:Int):=by omega
 have hO8:=(Uh HO).1.keep (Uh HX)
 obtain ⟨j0,u0⟩:=hO8.cells 0 (by decide)
 obtain ⟨j1,u1⟩:=hO8.cells 1 (by decide)
 obtain ⟨j2,u2⟩:=hO8.cells 2 (by decide)
 have v0:=hO8.fz 0 (by decide)
 have v1:=hO8.fz 1 (by decide)
 have v2:=hO8.fz 2 (by decide)
 have HR:=Hj (And.intro (three_set wo w.heap.size (.bool false) (.slice none 0 0) (.slice none 0 0) hO8.cells) (ret_Q (w:=w) (gy:=false) hO8 (sl_nil _) (sl_nil _) (fun p hp => by cases hp) (fun p hp => by cases hp) ((Uh HO).2.trans ((Uh HX).mono (Uh HO).2.size)) (Nat.le_refl _)))
 clear hO8
 go_wp2_with fail
 obtain ⟨⟨t0_,t1_,t2_,cc_⟩,hR⟩:=Uh HR
 generalize ((wo.setCell ⟨w.heap.size,0,none⟩ (.bool false)).setCell ⟨w.heap.size,1,none⟩ (.slice none 0 0)).setCell ⟨w.heap.size,2,none⟩ (.slice none 0 0) = wf at *
 refine bodyPost_ret (by simp [results,Tryz.results24,go_sem,t0_,t1_,t2_]; try rfl) rfl ?_
 exact ⟨_,rfl,hR⟩
set_option maxRecDepth 100000 in
set_option maxHeartbeats 32000000 in
theorem wparse_pC2 (s:ByteArray) (j:Nat) (k:Nat) (w:World) (hs:s.size ≤ 65536) (hz:0 < s.size) (hm:byA s 0 ≠ 45) (hr:RunK s 0 j) (hj:0 < j) (hjl:j < s.size) (hk:byA s j = 47) (hr2:RunK s (j + 1) k) (hk2:j + 1 < k) (hkl:k = s.size) (z:Nat) (hzr:Zr (s.extract (j + 1) s.size) z) (hze:((s.extract (j + 1) s.size).extract z (s.extract (j + 1) s.size).size).size = 0) :
  Calls Tryz.prog 24 #[.string s] w fun e w' => PsPost w w' false [] [] (j:Nat) 3 e:=by
 obtain ⟨wo,hwo⟩:∃ z,w.alloc (.cells #[.bool false,.slice none 0 0,.slice none 0 0] 25) = z:=⟨_,rfl⟩
 have hbo:Below w.heap.size w wo:=by rw [← hwo]; exact bAl
 have hO:=Out.made w
 rw [hwo] at hO
 have HO:=Hj (And.intro hO hbo)
 have HX:=Hj (Below.refl wo.heap.size wo)
 clear hO hbo
 have hs':¬ (65536:Int) < (s.size:Int):=by omega
 have hjt:=hr.top
 have hz':(0:Int) < (s.size:Int):=by omega
 have hg:=byA_get s 0 hz
 have t45:(((s[0]'hz).toNat:Int) == 45) = false:=by simp; omega
 have t45':¬ ((s[0]'hz).toNat:Int) = 45:=by omega
 clear hg hm
 have KD:=Hj (fun (W:World) => wdigEnd_any s 0 j W hs hr)
 clear hr
 go_enter Tryz.func24,Tryz.ntmps24
 go_wp2_with fail
 refine (Uh KD _).mono ?_
 rintro _ _ ⟨rfl,hw⟩
 obtain rfl:=hw.symm
 clear hw KD
 have tj:((j:Int) == 0) = false:=by simp; omega
 have tl:(j:Int) < (s.size:Int):=by omega
 have hgj:=byA_get s j hjl
 have t47:(((s[j]'hjl).toNat:Int) == 47) = true:=by rw [hgj,hk]; rfl
 have t47':((s[j]'hjl).toNat:Int) = 47:=by omega
 clear hgj
 have KD2:=Hj (fun (W:World) => wdigEnd_any s (j + 1) k W hs hr2)
 have hkt:=hr2.top
 clear hr2
 go_wp2_with fail
 refine (Uh KD2 _).mono ?_
 rintro _ _ ⟨rfl,hw⟩
 obtain rfl:=hw.symm
 clear hw KD2
 have tk:((k:Int) == (j:Int) + 1) = false:=by simp; omega
 have tkl:¬ (k:Int) < (s.size:Int):=by omega
 have tj1:(j:Int) + 1 ≤ (s.size:Int):=by omega
 have HUs:(s.extract (j + 1) s.size).size ≤ 65536:=by rw [ByteArray.size_extract]; omega
 have KB:=Hj (fun (W:World) => wbare_any (s.extract (j + 1) s.size) z W HUs hzr)
 have te:=str_nil hze
 generalize (s.extract (j + 1) s.size).extract z (s.extract (j + 1) s.size).size = R at *
 obtain ⟨T,hT⟩:∃ T,s.extract (j + 1) s.size = T:=⟨_,rfl⟩
 rw [hT] at KB
 have HTT:=Hj hT
 clear hzr HUs hT hze hkl
 go_wp2_with fail
 try rw [Uh HTT]
 refine (Uh KB _).mono ?_
 rintro _ _ ⟨rfl,hw⟩
 obtain rfl:=hw.symm
 clear hw KB
 have hO8:=(Uh HO).1.keep (Uh HX)
 obtain ⟨j0,u0⟩:=hO8.cells 0 (by decide)
 obtain ⟨j1,u1⟩:=hO8.cells 1 (by decide)
 obtain ⟨j2,u2⟩:=hO8.cells 2 (by decide)
 have v0:=hO8.fz 0 (by decide)
 have v1:=hO8.fz 1 (by decide)
 have v2:=hO8.fz 2 (by decide)
 have HR:=Hj (And.intro (three_set wo w.heap.size (.bool false) (.slice none 0 0) (.slice none 0 0) hO8.cells) (ret_Q (w:=w) (gy:=false) hO8 (sl_nil _) (sl_nil _) (fun p hp => by cases hp) (fun p hp => by cases hp) ((Uh HO).2.trans ((Uh HX).mono (Uh HO).2.size)) (Nat.le_refl _)))
 clear hO8
 go_wp2_with fail
 obtain ⟨⟨t0_,t1_,t2_,cc_⟩,hR⟩:=Uh HR
 generalize ((wo.setCell ⟨w.heap.size,0,none⟩ (.bool false)).setCell ⟨w.heap.size,1,none⟩ (.slice none 0 0)).setCell ⟨w.heap.size,2,none⟩ (.slice none 0 0) = wf at *
 refine bodyPost_ret (by simp [results,Tryz.results24,go_sem,t0_,t1_,t2_]; try rfl) rfl ?_
 exact ⟨_,rfl,hR⟩
set_option maxRecDepth 100000 in
set_option maxHeartbeats 32000000 in
theorem wparse_pC3 (s:ByteArray) (j:Nat) (k:Nat) (w:World) (hs:s.size ≤ 65536) (hz:0 < s.size) (hm:byA s 0 ≠ 45) (hr:RunK s 0 j) (hj:0 < j) (hjl:j < s.size) (hk:byA s j = 47) (hr2:RunK s (j + 1) k) (hk2:j + 1 < k) (hkl:k = s.size) (z:Nat) (hzr:Zr (s.extract (j + 1) s.size) z) (hze:¬ ((s.extract (j + 1) s.size).extract z (s.extract (j + 1) s.size).size).size = 0) (rg:Bool) (rx ry:List Nat) (ra re:Int) (hW:∀ W,Calls Tryz.prog 60 #[.bool false,.string (s.extract 0 j),.int .i64 0,.string (s.extract (j + 1) s.size),.int .i64 0] W fun e w' => PsPost W w' rg rx ry ra re e) :
  Calls Tryz.prog 24 #[.string s] w fun e w' => PsPost w w' rg rx ry ra re e:=by
 obtain ⟨wo,hwo⟩:∃ z,w.alloc (.cells #[.bool false,.slice none 0 0,.slice none 0 0] 25) = z:=⟨_,rfl⟩
 have hbo:Below w.heap.size w wo:=by rw [← hwo]; exact bAl
 have hO:=Out.made w
 rw [hwo] at hO
 have HO:=Hj (And.intro hO hbo)
 have HX:=Hj (Below.refl wo.heap.size wo)
 clear hO hbo
 have hs':¬ (65536:Int) < (s.size:Int):=by omega
 have hjt:=hr.top
 have hz':(0:Int) < (s.size:Int):=by omega
 have hg:=byA_get s 0 hz
 have t45:(((s[0]'hz).toNat:Int) == 45) = false:=by simp; omega
 have t45':¬ ((s[0]'hz).toNat:Int) = 45:=by omega
 clear hg hm
 have KD:=Hj (fun (W:World) => wdigEnd_any s 0 j W hs hr)
 clear hr
 go_enter Tryz.func24,Tryz.ntmps24
 go_wp2_with fail
 refine (Uh KD _).mono ?_
 rintro _ _ ⟨rfl,hw⟩
 obtain rfl:=hw.symm
 clear hw KD
 have tj:((j:Int) == 0) = false:=by simp; omega
 have tl:(j:Int) < (s.size:Int):=by omega
 have hgj:=byA_get s j hjl
 have t47:(((s[j]'hjl).toNat:Int) == 47) = true:=by rw [hgj,hk]; rfl
 have t47':((s[j]'hjl).toNat:Int) = 47:=by omega
 clear hgj
 have KD2:=Hj (fun (W:World) => wdigEnd_any s (j + 1) k W hs hr2)
 have hkt:=hr2.top
 clear hr2
 go_wp2_with fail
 refine (Uh KD2 _).mono ?_
 rintro _ _ ⟨rfl,hw⟩
 obtain rfl:=hw.symm
 clear hw KD2
 have tk:((k:Int) == (j:Int) + 1) = false:=by simp; omega
 have tkl:¬ (k:Int) < (s.size:Int):=by omega
 have tj1:(j:Int) + 1 ≤ (s.size:Int):=by omega
 have HUs:(s.extract (j + 1) s.size).size ≤ 65536:=by rw [ByteArray.size_extract]; omega
 have KB:=Hj (fun (W:World) => wbare_any (s.extract (j + 1) s.size) z W HUs hzr)
 have te:=str_some hze
 generalize (s.extract (j + 1) s.size).extract z (s.extract (j + 1) s.size).size = R at *
 obtain ⟨T,hT⟩:∃ T,s.extract (j + 1) s.size = T:=⟨_,rfl⟩
 rw [hT] at KB
 have HTT:=Hj hT
 clear hzr HUs hT hze hkl
 go_wp2_with fail
 try rw [Uh HTT]
 refine (Uh KB _).mono ?_
 rintro _ _ ⟨rfl,hw⟩
 obtain rfl:=hw.symm
 clear hw KB
 have HW:=Hj hW
 clear hW
 have tij:(0:Int) ≤ (j:Int):=by omega
 have tjs:(j:Int) ≤ (s.size:Int):=by omega
 have tw:IntKind.i64.wrap ((j:Int) + 1) = (j:Int) + 1:=by rw [wrap_i64s]; omega
 go_wp2_with fail
 go_region_with (go_at_call 60; refine (Uh HW _).mono ?_; rintro _ w8 ⟨v8,rfl,aN,mN,cN,aD,mD,cD,rfl,sN,sD,nN,nD,b8⟩; unfold ratV; have b9:Below wo.heap.size wo w8:=(Below.refl _ _).drew.trans b8; have hO8:=(Uh HO).1.keep b9; obtain ⟨j0,u0⟩:=hO8.cells 0 (by decide); obtain ⟨j1,u1⟩:=hO8.cells 1 (by decide); obtain ⟨j2,u2⟩:=hO8.cells 2 (by decide); have v0:=hO8.fz 0 (by decide); have v1:=hO8.fz 1 (by decide); have v2:=hO8.fz 2 (by decide); have hzo:=(Uh HO).1.lt; have hzd:wo.drew.heap.size = wo.heap.size:=rfl; have HR:=Hj (And.intro (three_set w8 w.heap.size (.bool rg) (.slice aN mN cN) (.slice aD mD cD) hO8.cells) (ret_Q (w:=w) (gy:=rg) hO8 sN sD (fun p hp => by have:=nN p hp; omega) (fun p hp => by have:=nD p hp; omega) ((Uh HO).2.trans (b9.mono (Uh HO).2.size)) (Nat.le_refl _))); clear hO8 sN sD nN nD b8 b9 hzo hzd)
 go_wp2_with fail
 obtain ⟨⟨t0_,t1_,t2_,cc_⟩,hR⟩:=Uh HR
 generalize ((w8.setCell ⟨w.heap.size,0,none⟩ (.bool rg)).setCell ⟨w.heap.size,1,none⟩ (.slice aN mN cN)).setCell ⟨w.heap.size,2,none⟩ (.slice aD mD cD) = wf at *
 refine bodyPost_ret (by simp [results,Tryz.results24,go_sem,t0_,t1_,t2_]; try rfl) rfl ?_
 exact ⟨_,rfl,hR⟩
set_option maxRecDepth 100000 in
set_option maxHeartbeats 32000000 in
theorem wparse_pD1 (s:ByteArray) (j:Nat) (w:World) (hs:s.size ≤ 65536) (hz:0 < s.size) (hm:byA s 0 ≠ 45) (hr:RunK s 0 j) (hj:0 < j) (hjl:j = s.size) (rg:Bool) (rx ry:List Nat) (ra re:Int) (hW:∀ W,Calls Tryz.prog 61 #[.string s,.bool false,.int .i64 0,.int .i64 (j:Nat)] W fun e w' => PsPost W w' rg rx ry ra re e) :
  Calls Tryz.prog 24 #[.string s] w fun e w' => PsPost w w' rg rx ry ra re e:=by
 obtain ⟨wo,hwo⟩:∃ z,w.alloc (.cells #[.bool false,.slice none 0 0,.slice none 0 0] 25) = z:=⟨_,rfl⟩
 have hbo:Below w.heap.size w wo:=by rw [← hwo]; exact bAl
 have hO:=Out.made w
 rw [hwo] at hO
 have HO:=Hj (And.intro hO hbo)
 have HX:=Hj (Below.refl wo.heap.size wo)
 clear hO hbo
 have hs':¬ (65536:Int) < (s.size:Int):=by omega
 have hjt:=hr.top
 have hz':(0:Int) < (s.size:Int):=by omega
 have hg:=byA_get s 0 hz
 have t45:(((s[0]'hz).toNat:Int) == 45) = false:=by simp; omega
 have t45':¬ ((s[0]'hz).toNat:Int) = 45:=by omega
 clear hg hm
 have KD:=Hj (fun (W:World) => wdigEnd_any s 0 j W hs hr)
 clear hr
 go_enter Tryz.func24,Tryz.ntmps24
 go_wp2_with fail
 refine (Uh KD _).mono ?_
 rintro _ _ ⟨rfl,hw⟩
 obtain rfl:=hw.symm
 clear hw KD
 have tj:((j:Int) == 0) = false:=by simp; omega
 have tl:¬ (j:Int) < (s.size:Int):=by omega
 clear hjl
 have HW:=Hj hW
 clear hW
 go_wp2_with fail
 refine (Uh HW _).mono ?_
 rintro _ w8 ⟨v8,rfl,aN,mN,cN,aD,mD,cD,rfl,sN,sD,nN,nD,b8⟩
 unfold ratV
 have hO8:=(Uh HO).1.keep b8
 obtain ⟨j0,u0⟩:=hO8.cells 0 (by decide)
 obtain ⟨j1,u1⟩:=hO8.cells 1 (by decide)
 obtain ⟨j2,u2⟩:=hO8.cells 2 (by decide)
 have v0:=hO8.fz 0 (by decide)
 have v1:=hO8.fz 1 (by decide)
 have v2:=hO8.fz 2 (by decide)
 have hzo:=(Uh HO).1.lt
 have HR:=Hj (And.intro (three_set w8 w.heap.size (.bool rg) (.slice aN mN cN) (.slice aD mD cD) hO8.cells) (ret_Q (w:=w) (gy:=rg) hO8 sN sD (fun p hp => by have:=nN p hp; omega) (fun p hp => by have:=nD p hp; omega) ((Uh HO).2.trans (b8.mono (Uh HO).2.size)) (Nat.le_refl _)))
 clear hO8 sN sD nN nD b8 hzo
 go_wp2_with fail
 obtain ⟨⟨t0_,t1_,t2_,cc_⟩,hR⟩:=Uh HR
 generalize ((w8.setCell ⟨w.heap.size,0,none⟩ (.bool rg)).setCell ⟨w.heap.size,1,none⟩ (.slice aN mN cN)).setCell ⟨w.heap.size,2,none⟩ (.slice aD mD cD) = wf at *
 refine bodyPost_ret (by simp [results,Tryz.results24,go_sem,t0_,t1_,t2_]; try rfl) rfl ?_
 exact ⟨_,rfl,hR⟩
set_option maxRecDepth 100000 in
set_option maxHeartbeats 32000000 in
theorem wparse_pD2 (s:ByteArray) (j:Nat) (w:World) (hs:s.size ≤ 65536) (hz:0 < s.size) (hm:byA s 0 ≠ 45) (hr:RunK s 0 j) (hj:0 < j) (hjl:j < s.size) (hk:byA s j ≠ 47) (rg:Bool) (rx ry:List Nat) (ra re:Int) (hW:∀ W,Calls Tryz.prog 61 #[.string s,.bool false,.int .i64 0,.int .i64 (j:Nat)] W fun e w' => PsPost W w' rg rx ry ra re e) :
  Calls Tryz.prog 24 #[.string s] w fun e w' => PsPost w w' rg rx ry ra re e:=by
 obtain ⟨wo,hwo⟩:∃ z,w.alloc (.cells #[.bool false,.slice none 0 0,.slice none 0 0] 25) = z:=⟨_,rfl⟩
 have hbo:Below w.heap.size w wo:=by rw [← hwo]; exact bAl
 have hO:=Out.made w
 rw [hwo] at hO
 have HO:=Hj (And.intro hO hbo)
 have HX:=Hj (Below.refl wo.heap.size wo)
 clear hO hbo
 have hs':¬ (65536:Int) < (s.size:Int):=by omega
 have hjt:=hr.top
 have hz':(0:Int) < (s.size:Int):=by omega
 have hg:=byA_get s 0 hz
 have t45:(((s[0]'hz).toNat:Int) == 45) = false:=by simp; omega
 have t45':¬ ((s[0]'hz).toNat:Int) = 45:=by omega
 clear hg hm
 have KD:=Hj (fun (W:World) => wdigEnd_any s 0 j W hs hr)
 clear hr
 go_enter Tryz.func24,Tryz.ntmps24
 go_wp2_with fail
 refine (Uh KD _).mono ?_
 rintro _ _ ⟨rfl,hw⟩
 obtain rfl:=hw.symm
 clear hw KD
 have tj:((j:Int) == 0) = false:=by simp; omega
 have tl:(j:Int) < (s.size:Int):=by omega
 have hgj:=byA_get s j hjl
 have t47:(((s[j]'hjl).toNat:Int) == 47) = false:=by simp; omega
 have t47':¬ ((s[j]'hjl).toNat:Int) = 47:=by omega
 clear hgj
 have HW:=Hj hW
 clear hW
 go_wp2_with fail
 refine (Uh HW _).mono ?_
 rintro _ w8 ⟨v8,rfl,aN,mN,cN,aD,mD,cD,rfl,sN,sD,nN,nD,b8⟩
 unfold ratV
 have hO8:=(Uh HO).1.keep b8
 obtain ⟨j0,u0⟩:=hO8.cells 0 (by decide)
 obtain ⟨j1,u1⟩:=hO8.cells 1 (by decide)
 obtain ⟨j2,u2⟩:=hO8.cells 2 (by decide)
 have v0:=hO8.fz 0 (by decide)
 have v1:=hO8.fz 1 (by decide)
 have v2:=hO8.fz 2 (by decide)
 have hzo:=(Uh HO).1.lt
 have HR:=Hj (And.intro (three_set w8 w.heap.size (.bool rg) (.slice aN mN cN) (.slice aD mD cD) hO8.cells) (ret_Q (w:=w) (gy:=rg) hO8 sN sD (fun p hp => by have:=nN p hp; omega) (fun p hp => by have:=nD p hp; omega) ((Uh HO).2.trans (b8.mono (Uh HO).2.size)) (Nat.le_refl _)))
 clear hO8 sN sD nN nD b8 hzo
 go_wp2_with fail
 obtain ⟨⟨t0_,t1_,t2_,cc_⟩,hR⟩:=Uh HR
 generalize ((w8.setCell ⟨w.heap.size,0,none⟩ (.bool rg)).setCell ⟨w.heap.size,1,none⟩ (.slice aN mN cN)).setCell ⟨w.heap.size,2,none⟩ (.slice aD mD cD) = wf at *
 refine bodyPost_ret (by simp [results,Tryz.results24,go_sem,t0_,t1_,t2_]; try rfl) rfl ?_
 exact ⟨_,rfl,hR⟩
end Go.Proofs.YtmnlhnmlgncedaaGreatDoor
