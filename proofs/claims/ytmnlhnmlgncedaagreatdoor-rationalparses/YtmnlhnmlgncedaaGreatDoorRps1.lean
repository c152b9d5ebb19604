/- Rps -/
import Derived.Test.YtmnlhnmlgncedaaGreatDoorRpr
namespace Go.Proofs.YtmnlhnmlgncedaaGreatDoor
open Go.RowKit Go.Deep
set_option linter.unusedVariables false
theorem lett_of {s:ByteArray} {e:Nat} (he:e < s.size) (h:byA s e = 101 ∨ byA s e = 69):(((s[e]'he).toNat:Int) == 101) = true ∧ ((s[e]'he).toNat:Int) = 101 ∨ (((s[e]'he).toNat:Int) == 101) = false ∧ ¬ ((s[e]'he).toNat:Int) = 101 ∧ (((s[e]'he).toNat:Int) == 69) = true ∧ ((s[e]'he).toNat:Int) = 69:=by
 have hg:=byA_get s e he
 rcases h with h | h
 ·exact .inl ⟨by rw [hg,h]; rfl,by omega⟩
 ·exact .inr ⟨by rw [hg,h]; rfl,by omega,by rw [hg,h]; rfl,by omega⟩
theorem byte_is {s:ByteArray} {e c:Nat} (he:e < s.size) (h:byA s e = c):(((s[e]'he).toNat:Int) == (c:Int)) = true ∧ ((s[e]'he).toNat:Int) = (c:Int):=by
 have hg:=byA_get s e he
 exact ⟨by rw [hg,h]; simp,by omega⟩
theorem byte_not {s:ByteArray} {e c:Nat} (he:e < s.size) (h:byA s e ≠ c):(((s[e]'he).toNat:Int) == (c:Int)) = false ∧ ¬ ((s[e]'he).toNat:Int) = (c:Int):=by
 have hg:=byA_get s e he
 exact ⟨by simp; omega,by omega⟩
set_option maxRecDepth 100000 in
set_option maxHeartbeats 32000000 in
theorem wdec_B (s:ByteArray) (g:Bool) (i j:Nat) (w:World) (hs:s.size ≤ 65536) (hij:i < j) (hjl:j < s.size) (hk:byA s j = 46) (hr:RunK s (j + 1) (j + 1)) :
  Calls Tryz.prog 61 #[.string s,.bool g,.int .i64 (i:Nat),.int .i64 (j:Nat)] w fun e w' => PsPost w w' false [] [] ((j + 1:Nat):Int) 5 e:=by
 obtain ⟨wo,hwo⟩:∃ z,w.alloc (.cells #[.bool false,.slice none 0 0,.slice none 0 0] 25) = z:=⟨_,rfl⟩
 have hbo:Below w.heap.size w wo:=by rw [← hwo]; exact bAl
 have hO:=Out.made w
 rw [hwo] at hO
 have HO:=Hj (And.intro hO hbo)
 have HX:=Hj (Below.refl wo.heap.size wo)
 clear hO hbo
 have tl:(j:Int) < (s.size:Int):=by omega
 have tij:(i:Int) ≤ (j:Int):=by omega
 have t46:(((s[j]'hjl).toNat:Int) == 46) = true:=(byte_is (c:=46) hjl hk).1
 have t46':((s[j]'hjl).toNat:Int) = 46:=(byte_is (c:=46) hjl hk).2
 have KD:=Hj (fun (W:World) => wdigEnd_any s (j + 1) (j + 1) W hs hr)
 clear hr
 go_enter Tryz.func61,Tryz.ntmps61
 go_wp2_with fail
 refine (Uh KD _).mono ?_
 rintro _ _ ⟨rfl,hw⟩
 obtain rfl:=hw.symm
 clear hw KD
 have hO8:=(Uh HO).1.keep (Uh HX)
 obtain ⟨j0,u0⟩:=hO8.cells 0 (by decide)
 obtain ⟨j1,u1⟩:=hO8.cells 1 (by decide)
 obtain ⟨j2,u2⟩:=hO8.cells 2 (by decide)
 have v0:=hO8.fz 0 (by decide)
 have v1:=hO8.fz 1 (by decide)
 have v2:=hO8.fz 2 (by decide)
 have HR:=Hj (And.intro (three_set wo w.heap.size (.bool false) (.slice none 0 0) (.slice none 0 0) hO8.cells) (ret_Q (w:=w) (gy:=false) hO8 (sl_nil _) (sl_nil _) (fun p hp => by cases hp) (fun p hp => by cases hp) ((Uh HO).2.trans ((Uh HX).mono (Uh HO).2.size)) (Nat.le_refl _)))
 clear hO8
 go_wp2_with fail
 obtain ⟨⟨t0_,t1_,t2_,cc_⟩,hR⟩:=Uh HR
 generalize ((wo.setCell ⟨w.heap.size,0,none⟩ (.bool false)).setCell ⟨w.heap.size,1,none⟩ (.slice none 0 0)).setCell ⟨w.heap.size,2,none⟩ (.slice none 0 0) = wf at *
 refine bodyPost_ret (by simp [results,Tryz.results61,go_sem,t0_,t1_,t2_]; try rfl) rfl ?_
 exact ⟨_,rfl,hR⟩
set_option maxRecDepth 100000 in
set_option maxHeartbeats 32000000 in
theorem wdec_0Nbad (s:ByteArray) (g:Bool) (i j:Nat) (w:World) (hs:s.size ≤ 65536) (hij:i < j) (hel:j < s.size) (hb1:byA s j ≠ 101) (hb2:byA s j ≠ 69) (hb3:byA s j ≠ 46) :
  Calls Tryz.prog 61 #[.string s,.bool g,.int .i64 (i:Nat),.int .i64 (j:Nat)] w fun e w' => PsPost w w' false [] [] (j:Nat) 5 e:=by
 obtain ⟨wo,hwo⟩:∃ z,w.alloc (.cells #[.bool false,.slice none 0 0,.slice none 0 0] 25) = z:=⟨_,rfl⟩
 have hbo:Below w.heap.size w wo:=by rw [← hwo]; exact bAl
 have hO:=Out.made w
 rw [hwo] at hO
 have HO:=Hj (And.intro hO hbo)
 have HX:=Hj (Below.refl wo.heap.size wo)
 clear hO hbo
 have tij:(i:Int) ≤ (j:Int):=by omega
 have te:(j:Int) < (s.size:Int):=by omega
 have t1:(((s[j]'hel).toNat:Int) == 101) = false:=(byte_not (c:=101) hel hb1).1
 have t1':¬ ((s[j]'hel).toNat:Int) = 101:=(byte_not (c:=101) hel hb1).2
 have t2:(((s[j]'hel).toNat:Int) == 69) = false:=(byte_not (c:=69) hel hb2).1
 have t2':¬ ((s[j]'hel).toNat:Int) = 69:=(byte_not (c:=69) hel hb2).2
 have t46:(((s[j]'hel).toNat:Int) == 46) = false:=(byte_not (c:=46) hel hb3).1
 have t46':¬ ((s[j]'hel).toNat:Int) = 46:=(byte_not (c:=46) hel hb3).2
 go_enter Tryz.func61,Tryz.ntmps61
 have hO8:=(Uh HO).1.keep (Uh HX)
 obtain ⟨j0,u0⟩:=hO8.cells 0 (by decide)
 obtain ⟨j1,u1⟩:=hO8.cells 1 (by decide)
 obtain ⟨j2,u2⟩:=hO8.cells 2 (by decide)
 have v0:=hO8.fz 0 (by decide)
 have v1:=hO8.fz 1 (by decide)
 have v2:=hO8.fz 2 (by decide)
 have HR:=Hj (And.intro (three_set wo w.heap.size (.bool false) (.slice none 0 0) (.slice none 0 0) hO8.cells) (ret_Q (w:=w) (gy:=false) hO8 (sl_nil _) (sl_nil _) (fun p hp => by cases hp) (fun p hp => by cases hp) ((Uh HO).2.trans ((Uh HX).mono (Uh HO).2.size)) (Nat.le_refl _)))
 clear hO8
 go_wp2_with fail
 obtain ⟨⟨t0_,t1_,t2_,cc_⟩,hR⟩:=Uh HR
 generalize ((wo.setCell ⟨w.heap.size,0,none⟩ (.bool false)).setCell ⟨w.heap.size,1,none⟩ (.slice none 0 0)).setCell ⟨w.heap.size,2,none⟩ (.slice none 0 0) = wf at *
 refine bodyPost_ret (by simp [results,Tryz.results61,go_sem,t0_,t1_,t2_]; try rfl) rfl ?_
 exact ⟨_,rfl,hR⟩
set_option maxRecDepth 100000 in
set_option maxHeartbeats 32000000 in
theorem wdec_0Nok (s:ByteArray) (g:Bool) (i j:Nat) (w:World) (hs:s.size ≤ 65536) (hij:i < j) (hel:j = s.size) (rg:Bool) (rx ry:List Nat) (ra re:Int) (hW:∀ W,Calls Tryz.prog 60 #[.bool g,.string (s.extract i j),.int .i64 0,.string ⟨#[49]⟩,.int .i64 0] W fun e w' => PsPost W w' rg rx ry ra re e) :
  Calls Tryz.prog 61 #[.string s,.bool g,.int .i64 (i:Nat),.int .i64 (j:Nat)] w fun e w' => PsPost w w' rg rx ry ra re e:=by
 obtain ⟨wo,hwo⟩:∃ z,w.alloc (.cells #[.bool false,.slice none 0 0,.slice none 0 0] 25) = z:=⟨_,rfl⟩
 have hbo:Below w.heap.size w wo:=by rw [← hwo]; exact bAl
 have hO:=Out.made w
 rw [hwo] at hO
 have HO:=Hj (And.intro hO hbo)
 have HX:=Hj (Below.refl wo.heap.size wo)
 clear hO hbo
 have tij:(i:Int) ≤ (j:Int):=by omega
 have te:¬ (j:Int) < (s.size:Int):=by omega
 have te1:(j:Int) ≤ (s.size:Int):=by omega
 clear hel
 have HW:=Hj hW
 clear hW
 go_enter Tryz.func61,Tryz.ntmps61
 go_wp2_with fail
 refine (Uh HW _).mono ?_
 rintro _ w8 ⟨v8,rfl,aN,mN,cN,aD,mD,cD,rfl,sN,sD,nN,nD,b8⟩
 unfold ratV
 have hO8:=(Uh HO).1.keep b8
 obtain ⟨j0,u0⟩:=hO8.cells 0 (by decide)
 obtain ⟨j1,u1⟩:=hO8.cells 1 (by decide)
 obtain ⟨j2,u2⟩:=hO8.cells 2 (by decide)
 have v0:=hO8.fz 0 (by decide)
 have v1:=hO8.fz 1 (by decide)
 have v2:=hO8.fz 2 (by decide)
 have hzo:=(Uh HO).1.lt
 have HR:=Hj (And.intro (three_set w8 w.heap.size (.bool rg) (.slice aN mN cN) (.slice aD mD cD) hO8.cells) (ret_Q (w:=w) (gy:=rg) hO8 sN sD (fun p hp => by have:=nN p hp; omega) (fun p hp => by have:=nD p hp; omega) ((Uh HO).2.trans (b8.mono (Uh HO).2.size)) (Nat.le_refl _)))
 clear hO8 sN sD nN nD b8 hzo
 go_wp2_with fail
 obtain ⟨⟨t0_,t1_,t2_,cc_⟩,hR⟩:=Uh HR
 generalize ((w8.setCell ⟨w.heap.size,0,none⟩ (.bool rg)).setCell ⟨w.heap.size,1,none⟩ (.slice aN mN cN)).setCell ⟨w.heap.size,2,none⟩ (.slice aD mD cD) = wf at *
 refine bodyPost_ret (by simp [results,Tryz.results61,go_sem,t0_,t1_,t2_]; try rfl) rfl ?_
 exact ⟨_,rfl,hR⟩
set_option maxRecDepth 100000 in
set_option maxHeartbeats 32000000 in
theorem wdec_1Nbad (s:ByteArray) (g:Bool) (i j k:Nat) (w:World) (hs:s.size ≤ 65536) (hij:i < j) (hjl:j < s.size) (hk:byA s j = 46) (hr:RunK s (j + 1) k) (hjk:j + 1 < k) (hel:k < s.size) (hb1:byA s k ≠ 101) (hb2:byA s k ≠ 69) :
  Calls Tryz.prog 61 #[.string s,.bool g,.int .i64 (i:Nat),.int .i64 (j:Nat)] w fun e w' => PsPost w w' false [] [] (k:Nat) 5 e:=by
 obtain ⟨wo,hwo⟩:∃ z,w.alloc (.cells #[.bool false,.slice none 0 0,.slice none 0 0] 25) = z:=⟨_,rfl⟩
 have hbo:Below w.heap.size w wo:=by rw [← hwo]; exact bAl
 have hO:=Out.made w
 rw [hwo] at hO
 have HO:=Hj (And.intro hO hbo)
 have HX:=Hj (Below.refl wo.heap.size wo)
 clear hO hbo
 have tij:(i:Int) ≤ (j:Int):=by omega
 have hkt:=hr.top
 have tl:(j:Int) < (s.size:Int):=by omega
 have t46:(((s[j]'hjl).toNat:Int) == 46) = true:=(byte_is (c:=46) hjl hk).1
 have t46':((s[j]'hjl).toNat:Int) = 46:=(byte_is (c:=46) hjl hk).2
 have KD:=Hj (fun (W:World) => wdigEnd_any s (j + 1) k W hs hr)
 clear hr
 have te:(k:Int) < (s.size:Int):=by omega
 have t1:(((s[k]'hel).toNat:Int) == 101) = false:=(byte_not (c:=101) hel hb1).1
 have t1':¬ ((s[k]'hel).toNat:Int) = 101:=(byte_not (c:=101) hel hb1).2
 have t2:(((s[k]'hel).toNat:Int) == 69) = false:=(byte_not (c:=69) hel hb2).1
 have t2':¬ ((s[k]'hel).toNat:Int) = 69:=(byte_not (c:=69) hel hb2).2
 go_enter Tryz.func61,Tryz.ntmps61
 go_wp2_with fail
 refine (Uh KD _).mono ?_
 rintro _ _ ⟨rfl,hw⟩
 obtain rfl:=hw.symm
 clear hw KD
 have tk:((k:Int) == (j:Int) + 1) = false:=by simp; omega
 have tk1:(j:Int) + 1 ≤ (k:Int):=by omega
 have tk2:(k:Int) ≤ (s.size:Int):=by omega
 have hO8:=(Uh HO).1.keep (Uh HX)
 obtain ⟨j0,u0⟩:=hO8.cells 0 (by decide)
 obtain ⟨j1,u1⟩:=hO8.cells 1 (by decide)
 obtain ⟨j2,u2⟩:=hO8.cells 2 (by decide)
 have v0:=hO8.fz 0 (by decide)
 have v1:=hO8.fz 1 (by decide)
 have v2:=hO8.fz 2 (by decide)
 have HR:=Hj (And.intro (three_set wo w.heap.size (.bool false) (.slice none 0 0) (.slice none 0 0) hO8.cells) (ret_Q (w:=w) (gy:=false) hO8 (sl_nil _) (sl_nil _) (fun p hp => by cases hp) (fun p hp => by cases hp) ((Uh HO).2.trans ((Uh HX).mono (Uh HO).2.size)) (Nat.le_refl _)))
 clear hO8
 go_wp2_with fail
 obtain ⟨⟨t0_,t1_,t2_,cc_⟩,hR⟩:=Uh HR
 generalize ((wo.setCell ⟨w.heap.size,0,none⟩ (.bool false)).setCell ⟨w.heap.size,1,none⟩ (.slice none 0 0)).setCell ⟨w.heap.size,2,none⟩ (.slice none 0 0) = wf at *
 refine bodyPost_ret (by simp [results,Tryz.results61,go_sem,t0_,t1_,t2_]; try rfl) rfl ?_
 exact ⟨_,rfl,hR⟩
set_option maxRecDepth 100000 in
set_option maxHeartbeats 32000000 in
theorem wdec_1Nok (s:ByteArray) (g:Bool) (i j k:Nat) (w:World) (hs:s.size ≤ 65536) (hij:i < j) (hjl:j < s.size) (hk:byA s j = 46) (hr:RunK s (j + 1) k) (hjk:j + 1 < k) (hel:k = s.size) (rg:Bool) (rx ry:List Nat) (ra re:Int) (hW:∀ W,Calls Tryz.prog 60 #[.bool g,.string (s.extract i j ++ s.extract (j + 1) k),.int .i64 0,.string ⟨#[49]⟩,.int .i64 ((k - j - 1:Nat):Int)] W fun e w' => PsPost W w' rg rx ry ra re e) :
  Calls Tryz.prog 61 #[.string s,.bool g,.int .i64 (i:Nat),.int .i64 (j:Nat)] w fun e w' => PsPost w w' rg rx ry ra re e:=by
 obtain ⟨wo,hwo⟩:∃ z,w.alloc (.cells #[.bool false,.slice none 0 0,.slice none 0 0] 25) = z:=⟨_,rfl⟩
 have hbo:Below w.heap.size w wo:=by rw [← hwo]; exact bAl
 have hO:=Out.made w
 rw [hwo] at hO
 have HO:=Hj (And.intro hO hbo)
 have HX:=Hj (Below.refl wo.heap.size wo)
 clear hO hbo
 have tij:(i:Int) ≤ (j:Int):=by omega
 have hkt:=hr.top
 have tl:(j:Int) < (s.size:Int):=by omega
 have t46:(((s[j]'hjl).toNat:Int) == 46) = true:=(byte_is (c:=46) hjl hk).1
 have t46':((s[j]'hjl).toNat:Int) = 46:=(byte_is (c:=46) hjl hk).2
 have KD:=Hj (fun (W:World) => wdigEnd_any s (j + 1) k W hs hr)
 clear hr
 obtain ⟨B,hBd⟩:∃ B,k - j - 1 = B:=⟨_,rfl⟩
 rw [hBd] at hW
 have tB:(k:Int) - (j:Int) - 1 = (B:Int):=by omega
 have tB0:0 < B:=by omega
 have tB1:B ≤ 65536:=by omega
 have tB2:¬ (0:Int) ≤ -(B:Int):=by omega
 clear hBd
 have te:¬ (k:Int) < (s.size:Int):=by omega
 have te1:(k:Int) ≤ (s.size:Int):=by omega
 clear hel
 have HW:=Hj hW
 clear hW
 go_enter Tryz.func61,Tryz.ntmps61
 go_wp2_with fail
 refine (Uh KD _).mono ?_
 rintro _ _ ⟨rfl,hw⟩
 obtain rfl:=hw.symm
 clear hw KD
 have tk:((k:Int) == (j:Int) + 1) = false:=by simp; omega
 have tk1:(j:Int) + 1 ≤ (k:Int):=by omega
 have tk2:(k:Int) ≤ (s.size:Int):=by omega
 go_wp2_with fail
 refine (Uh HW _).mono ?_
 rintro _ w8 ⟨v8,rfl,aN,mN,cN,aD,mD,cD,rfl,sN,sD,nN,nD,b8⟩
 unfold ratV
 have hO8:=(Uh HO).1.keep b8
 obtain ⟨j0,u0⟩:=hO8.cells 0 (by decide)
 obtain ⟨j1,u1⟩:=hO8.cells 1 (by decide)
 obtain ⟨j2,u2⟩:=hO8.cells 2 (by decide)
 have v0:=hO8.fz 0 (by decide)
 have v1:=hO8.fz 1 (by decide)
 have v2:=hO8.fz 2 (by decide)
 have hzo:=(Uh HO).1.lt
 have HR:=Hj (And.intro (three_set w8 w.heap.size (.bool rg) (.slice aN mN cN) (.slice aD mD cD) hO8.cells) (ret_Q (w:=w) (gy:=rg) hO8 sN sD (fun p hp => by have:=nN p hp; omega) (fun p hp => by have:=nD p hp; omega) ((Uh HO).2.trans (b8.mono (Uh HO).2.size)) (Nat.le_refl _)))
 clear hO8 sN sD nN nD b8 hzo
 go_wp2_with fail
 obtain ⟨⟨t0_,t1_,t2_,cc_⟩,hR⟩:=Uh HR
 generalize ((w8.setCell ⟨w.heap.size,0,none⟩ (.bool rg)).setCell ⟨w.heap.size,1,none⟩ (.slice aN mN cN)).setCell ⟨w.heap.size,2,none⟩ (.slice aD mD cD) = wf at *
 refine bodyPost_ret (by simp [results,Tryz.results61,go_sem,t0_,t1_,t2_]; try rfl) rfl ?_
 exact ⟨_,rfl,hR⟩
set_option maxRecDepth 100000 in
set_option maxHeartbeats 32000000 in
theorem wdec_0Leb0 (s:ByteArray) (g:Bool) (i j:Nat) (w:World) (hs:s.size ≤ 65536) (hij:i < j) (hel:j < s.size) (hl:byA s j = 101 ∨ byA s j = 69) (hsl:j + 1 = s.size) (m:Nat) (hrm:RunK s (j + 1) m) (hm:m = j + 1) :
  Calls Tryz.prog 61 #[.string s,.bool g,.int .i64 (i:Nat),.int .i64 (j:Nat)] w fun e w' => PsPost w w' false [] [] (m:Nat) 5 e:=by
 obtain ⟨wo,hwo⟩:∃ z,w.alloc (.cells #[.bool false,.slice none 0 0,.slice none 0 0] 25) = z:=⟨_,rfl⟩
 have hbo:Below w.heap.size w wo:=by rw [← hwo]; exact bAl
 have hO:=Out.made w
 rw [hwo] at hO
 have HO:=Hj (And.intro hO hbo)
 have HX:=Hj (Below.refl wo.heap.size wo)
 clear hO hbo
 have tij:(i:Int) ≤ (j:Int):=by omega
 have te:(j:Int) < (s.size:Int):=by omega
 have t46:(((s[j]'hel).toNat:Int) == 46) = false:=(byte_not (c:=46) hel (by omega)).1
 have t46':¬ ((s[j]'hel).toNat:Int) = 46:=(byte_not (c:=46) hel (by omega)).2
 have LT:=lett_of hel hl
 have ts:¬ (j:Int) + 1 < (s.size:Int):=by omega
 have hmt:=hrm.top
 have hml0:=hrm.le
 have KM:=Hj (fun (W:World) => wdigEnd_any s (j + 1) m W hs hrm)
 clear hrm
 go_enter Tryz.func61,Tryz.ntmps61
 rcases LT with ⟨a1,a2⟩ | ⟨a1,a2,a3,a4⟩
 all_goals
  go_wp2_with fail
  refine (Uh KM _).mono ?_
  rintro _ _ ⟨rfl,hw⟩
  obtain rfl:=hw.symm
  clear hw KM
  subst hm
  have hO8:=(Uh HO).1.keep (Uh HX)
  obtain ⟨j0,u0⟩:=hO8.cells 0 (by decide)
  obtain ⟨j1,u1⟩:=hO8.cells 1 (by decide)
  obtain ⟨j2,u2⟩:=hO8.cells 2 (by decide)
  have v0:=hO8.fz 0 (by decide)
  have v1:=hO8.fz 1 (by decide)
  have v2:=hO8.fz 2 (by decide)
  have HR:=Hj (And.intro (three_set wo w.heap.size (.bool false) (.slice none 0 0) (.slice none 0 0) hO8.cells) (ret_Q (w:=w) (gy:=false) hO8 (sl_nil _) (sl_nil _) (fun p hp => by cases hp) (fun p hp => by cases hp) ((Uh HO).2.trans ((Uh HX).mono (Uh HO).2.size)) (Nat.le_refl _)))
  clear hO8
  go_wp2_with fail
  obtain ⟨⟨t0_,t1_,t2_,cc_⟩,hR⟩:=Uh HR
  generalize ((wo.setCell ⟨w.heap.size,0,none⟩ (.bool false)).setCell ⟨w.heap.size,1,none⟩ (.slice none 0 0)).setCell ⟨w.heap.size,2,none⟩ (.slice none 0 0) = wf at *
  refine bodyPost_ret (by simp [results,Tryz.results61,go_sem,t0_,t1_,t2_]; try rfl) rfl ?_
  exact ⟨_,rfl,hR⟩
set_option maxRecDepth 100000 in
set_option maxHeartbeats 32000000 in
theorem wdec_0Lob0 (s:ByteArray) (g:Bool) (i j:Nat) (w:World) (hs:s.size ≤ 65536) (hij:i < j) (hel:j < s.size) (hl:byA s j = 101 ∨ byA s j = 69) (hsl:j + 1 < s.size) (hs1:byA s (j + 1) ≠ 43) (hs2:byA s (j + 1) ≠ 45) (m:Nat) (hrm:RunK s (j + 1) m) (hm:m = j + 1) :
  Calls Tryz.prog 61 #[.string s,.bool g,.int .i64 (i:Nat),.int .i64 (j:Nat)] w fun e w' => PsPost w w' false [] [] (m:Nat) 5 e:=by
 obtain ⟨wo,hwo⟩:∃ z,w.alloc (.cells #[.bool false,.slice none 0 0,.slice none 0 0] 25) = z:=⟨_,rfl⟩
 have hbo:Below w.heap.size w wo:=by rw [← hwo]; exact bAl
 have hO:=Out.made w
 rw [hwo] at hO
 have HO:=Hj (And.intro hO hbo)
 have HX:=Hj (Below.refl wo.heap.size wo)
 clear hO hbo
 have tij:(i:Int) ≤ (j:Int):=by omega
 have te:(j:Int) < (s.size:Int):=by omega
 have t46:(((s[j]'hel).toNat:Int) == 46) = false:=(byte_not (c:=46) hel (by omega)).1
 have t46':¬ ((s[j]'hel).toNat:Int) = 46:=(byte_not (c:=46) hel (by omega)).2
 have LT:=lett_of hel hl
 have ts:(j:Int) + 1 < (s.size:Int):=by omega
 have t43:(((s[j+1]'hsl).toNat:Int) == 43) = false:=(byte_not (c:=43) hsl hs1).1
 have t43':¬ ((s[j+1]'hsl).toNat:Int) = 43:=(byte_not (c:=43) hsl hs1).2
 have t45:(((s[j+1]'hsl).toNat:Int) == 45) = false:=(byte_not (c:=45) hsl hs2).1
 have t45':¬ ((s[j+1]'hsl).toNat:Int) = 45:=(byte_not (c:=45) hsl hs2).2
 have hmt:=hrm.top
 have hml0:=hrm.le
 have KM:=Hj (fun (W:World) => wdigEnd_any s (j + 1) m W hs hrm)
 clear hrm
 go_enter Tryz.func61,Tryz.ntmps61
 rcases LT with ⟨a1,a2⟩ | ⟨a1,a2,a3,a4⟩
 all_goals
  go_wp2_with fail
  refine (Uh KM _).mono ?_
  rintro _ _ ⟨rfl,hw⟩
  obtain rfl:=hw.symm
  clear hw KM
  subst hm
  have hO8:=(Uh HO).1.keep (Uh HX)
  obtain ⟨j0,u0⟩:=hO8.cells 0 (by decide)
  obtain ⟨j1,u1⟩:=hO8.cells 1 (by decide)
  obtain ⟨j2,u2⟩:=hO8.cells 2 (by decide)
  have v0:=hO8.fz 0 (by decide)
  have v1:=hO8.fz 1 (by decide)
  have v2:=hO8.fz 2 (by decide)
  have HR:=Hj (And.intro (three_set wo w.heap.size (.bool false) (.slice none 0 0) (.slice none 0 0) hO8.cells) (ret_Q (w:=w) (gy:=false) hO8 (sl_nil _) (sl_nil _) (fun p hp => by cases hp) (fun p hp => by cases hp) ((Uh HO).2.trans ((Uh HX).mono (Uh HO).2.size)) (Nat.le_refl _)))
  clear hO8
  go_wp2_with fail
  obtain ⟨⟨t0_,t1_,t2_,cc_⟩,hR⟩:=Uh HR
  generalize ((wo.setCell ⟨w.heap.size,0,none⟩ (.bool false)).setCell ⟨w.heap.size,1,none⟩ (.slice none 0 0)).setCell ⟨w.heap.size,2,none⟩ (.slice none 0 0) = wf at *
  refine bodyPost_ret (by simp [results,Tryz.results61,go_sem,t0_,t1_,t2_]; try rfl) rfl ?_
  exact ⟨_,rfl,hR⟩
set_option maxRecDepth 100000 in
set_option maxHeartbeats 32000000 in
theorem wdec_0Lpb0 (s:ByteArray) (g:Bool) (i j:Nat) (w:World) (hs:s.size ≤ 65536) (hij:i < j) (hel:j < s.size) (hl:byA s j = 101 ∨ byA s j = 69) (hsl:j + 1 < s.size) (hs1:byA s (j + 1) = 43) (hs2:byA s (j + 1) ≠ 45) (m:Nat) (hrm:RunK s (j + 1 + 1) m) (hm:m = j + 1 + 1) :
  Calls Tryz.prog 61 #[.string s,.bool g,.int .i64 (i:Nat),.int .i64 (j:Nat)] w fun e w' => PsPost w w' false [] [] (m:Nat) 5 e:=by
 obtain ⟨wo,hwo⟩:∃ z,w.alloc (.cells #[.bool false,.slice none 0 0,.slice none 0 0] 25) = z:=⟨_,rfl⟩
 have hbo:Below w.heap.size w wo:=by rw [← hwo]; exact bAl
 have hO:=Out.made w
 rw [hwo] at hO
 have HO:=Hj (And.intro hO hbo)
 have HX:=Hj (Below.refl wo.heap.size wo)
 clear hO hbo
 have tij:(i:Int) ≤ (j:Int):=by omega
 have te:(j:Int) < (s.size:Int):=by omega
 have t46:(((s[j]'hel).toNat:Int) == 46) = false:=(byte_not (c:=46) hel (by omega)).1
 have t46':¬ ((s[j]'hel).toNat:Int) = 46:=(byte_not (c:=46) hel (by omega)).2
 have LT:=lett_of hel hl
 have ts:(j:Int) + 1 < (s.size:Int):=by omega
 have t43:(((s[j+1]'hsl).toNat:Int) == 43) = true:=(byte_is (c:=43) hsl hs1).1
 have t43':((s[j+1]'hsl).toNat:Int) = 43:=(byte_is (c:=43) hsl hs1).2
 have t45:(((s[j+1]'hsl).toNat:Int) == 45) = false:=(byte_not (c:=45) hsl hs2).1
 have t45':¬ ((s[j+1]'hsl).toNat:Int) = 45:=(byte_not (c:=45) hsl hs2).2
 have hmt:=hrm.top
 have hml0:=hrm.le
 have KM:=Hj (fun (W:World) => wdigEnd_any s (j + 1 + 1) m W hs hrm)
 clear hrm
 go_enter Tryz.func61,Tryz.ntmps61
 rcases LT with ⟨a1,a2⟩ | ⟨a1,a2,a3,a4⟩
 all_goals
  go_wp2_with fail
  refine (Uh KM _).mono ?_
  rintro _ _ ⟨rfl,hw⟩
  obtain rfl:=hw.symm
  clear hw KM
  subst hm
  have hO8:=(Uh HO).1.keep (Uh HX)
  obtain ⟨j0,u0⟩:=hO8.cells 0 (by decide)
  obtain ⟨j1,u1⟩:=hO8.cells 1 (by decide)
  obtain ⟨j2,u2⟩:=hO8.cells 2 (by decide)
  have v0:=hO8.fz 0 (by decide)
  have v1:=hO8.fz 1 (by decide)
  have v2:=hO8.fz 2 (by decide)
  have HR:=Hj (And.intro (three_set wo w.heap.size (.bool false) (.slice none 0 0) (.slice none 0 0) hO8.cells) (ret_Q (w:=w) (gy:=false) hO8 (sl_nil _) (sl_nil _) (fun p hp => by cases hp) (fun p hp => by cases hp) ((Uh HO).2.trans ((Uh HX).mono (Uh HO).2.size)) (Nat.le_refl _)))
  clear hO8
  go_wp2_with fail
  obtain ⟨⟨t0_,t1_,t2_,cc_⟩,hR⟩:=Uh HR
  generalize ((wo.setCell ⟨w.heap.size,0,none⟩ (.bool false)).setCell ⟨w.heap.size,1,none⟩ (.slice none 0 0)).setCell ⟨w.heap.size,2,none⟩ (.slice none 0 0) = wf at *
  refine bodyPost_ret (by simp [results,Tryz.results61,go_sem,t0_,t1_,t2_]; try rfl) rfl ?_
  exact ⟨_,rfl,hR⟩
set_option maxRecDepth 100000 in
set_option maxHeartbeats 32000000 in
theorem wdec_0Lmb0 (s:ByteArray) (g:Bool) (i j:Nat) (w:World) (hs:s.size ≤ 65536) (hij:i < j) (hel:j < s.size) (hl:byA s j = 101 ∨ byA s j = 69) (hsl:j + 1 < s.size) (hs1:byA s (j + 1) ≠ 43) (hs2:byA s (j + 1) = 45) (m:Nat) (hrm:RunK s (j + 1 + 1) m) (hm:m = j + 1 + 1) :
  Calls Tryz.prog 61 #[.string s,.bool g,.int .i64 (i:Nat),.int .i64 (j:Nat)] w fun e w' => PsPost w w' false [] [] (m:Nat) 5 e:=by
 obtain ⟨wo,hwo⟩:∃ z,w.alloc (.cells #[.bool false,.slice none 0 0,.slice none 0 0] 25) = z:=⟨_,rfl⟩
 have hbo:Below w.heap.size w wo:=by rw [← hwo]; exact bAl
 have hO:=Out.made w
 rw [hwo] at hO
 have HO:=Hj (And.intro hO hbo)
 have HX:=Hj (Below.refl wo.heap.size wo)
 clear hO hbo
 have tij:(i:Int) ≤ (j:Int):=by omega
 have te:(j:Int) < (s.size:Int):=by omega
 have t46:(((s[j]'hel).toNat:Int) == 46) = false:=(byte_not (c:=46) hel (by omega)).1
 have t46':¬ ((s[j]'hel).toNat:Int) = 46:=(byte_not (c:=46) hel (by omega)).2
 have LT:=lett_of hel hl
 have ts:(j:Int) + 1 < (s.size:Int):=by omega
 have t43:(((s[j+1]'hsl).toNat:Int) == 43) = false:=(byte_not (c:=43) hsl hs1).1
 have t43':¬ ((s[j+1]'hsl).toNat:Int) = 43:=(byte_not (c:=43) hsl hs1).2
 have t45:(((s[j+1]'hsl).toNat:Int) == 45) = true:=(byte_is (c:=45) hsl hs2).1
 have t45':((s[j+1]'hsl).toNat:Int) = 45:=(byte_is (c:=45) hsl hs2).2
 have hmt:=hrm.top
 have hml0:=hrm.le
 have KM:=Hj (fun (W:World) => wdigEnd_any s (j + 1 + 1) m W hs hrm)
 clear hrm
 go_enter Tryz.func61,Tryz.ntmps61
 rcases LT with ⟨a1,a2⟩ | ⟨a1,a2,a3,a4⟩
 all_goals
  go_wp2_with fail
  refine (Uh KM _).mono ?_
  rintro _ _ ⟨rfl,hw⟩
  obtain rfl:=hw.symm
  clear hw KM
  subst hm
  have hO8:=(Uh HO).1.keep (Uh HX)
  obtain ⟨j0,u0⟩:=hO8.cells 0 (by decide)
  obtain ⟨j1,u1⟩:=hO8.cells 1 (by decide)
  obtain ⟨j2,u2⟩:=hO8.cells 2 (by decide)
  have v0:=hO8.fz 0 (by decide)
  have v1:=hO8.fz 1 (by decide)
  have v2:=hO8.fz 2 (by decide)
  have HR:=Hj (And.intro (three_set wo w.heap.size (.bool false) (.slice none 0 0) (.slice none 0 0) hO8.cells) (ret_Q (w:=w) (gy:=false) hO8 (sl_nil _) (sl_nil _) (fun p hp => by cases hp) (fun p hp => by cases hp) ((Uh HO).2.trans ((Uh HX).mono (Uh HO).2.size)) (Nat.le_refl _)))
  clear hO8
  go_wp2_with fail
  obtain ⟨⟨t0_,t1_,t2_,cc_⟩,hR⟩:=Uh HR
  generalize ((wo.setCell ⟨w.heap.size,0,none⟩ (.bool false)).setCell ⟨w.heap.size,1,none⟩ (.slice none 0 0)).setCell ⟨w.heap.size,2,none⟩ (.slice none 0 0) = wf at *
  refine bodyPost_ret (by simp [results,Tryz.results61,go_sem,t0_,t1_,t2_]; try rfl) rfl ?_
  exact ⟨_,rfl,hR⟩
set_option maxRecDepth 100000 in
set_option maxHeartbeats 32000000 in
theorem wdec_0Lob1 (s:ByteArray) (g:Bool) (i j:Nat) (w:World) (hs:s.size ≤ 65536) (hij:i < j) (hel:j < s.size) (hl:byA s j = 101 ∨ byA s j = 69) (hsl:j + 1 < s.size) (hs1:byA s (j + 1) ≠ 43) (hs2:byA s (j + 1) ≠ 45) (m:Nat) (hrm:RunK s (j + 1) m) (hm:j + 1 < m) (hml:m < s.size) (N:Nat) (hP:∀ W,Calls Tryz.prog 115 #[.string (s.extract (j + 1) m)] W fun e w' => e = .returned (.int .i64 (N:Nat)) ∧ w' = W) (hN2:N ≤ 4097) :
  Calls Tryz.prog 61 #[.string s,.bool g,.int .i64 (i:Nat),.int .i64 (j:Nat)] w fun e w' => PsPost w w' false [] [] (m:Nat) 5 e:=by
 obtain ⟨wo,hwo⟩:∃ z,w.alloc (.cells #[.bool false,.slice none 0 0,.slice none 0 0] 25) = z:=⟨_,rfl⟩
 have hbo:Below w.heap.size w wo:=by rw [← hwo]; exact bAl
 have hO:=Out.made w
 rw [hwo] at hO
 have HO:=Hj (And.intro hO hbo)
 have HX:=Hj (Below.refl wo.heap.size wo)
 clear hO hbo
 have tij:(i:Int) ≤ (j:Int):=by omega
 have te:(j:Int) < (s.size:Int):=by omega
 have t46:(((s[j]'hel).toNat:Int) == 46) = false:=(byte_not (c:=46) hel (by omega)).1
 have t46':¬ ((s[j]'hel).toNat:Int) = 46:=(byte_not (c:=46) hel (by omega)).2
 have LT:=lett_of hel hl
 have ts:(j:Int) + 1 < (s.size:Int):=by omega
 have t43:(((s[j+1]'hsl).toNat:Int) == 43) = false:=(byte_not (c:=43) hsl hs1).1
 have t43':¬ ((s[j+1]'hsl).toNat:Int) = 43:=(byte_not (c:=43) hsl hs1).2
 have t45:(((s[j+1]'hsl).toNat:Int) == 45) = false:=(byte_not (c:=45) hsl hs2).1
 have t45':¬ ((s[j+1]'hsl).toNat:Int) = 45:=(byte_not (c:=45) hsl hs2).2
 have hmt:=hrm.top
 have hml0:=hrm.le
 have KM:=Hj (fun (W:World) => wdigEnd_any s (j + 1) m W hs hrm)
 clear hrm
 have KP:=Hj hP
 clear hP
 go_enter Tryz.func61,Tryz.ntmps61
 rcases LT with ⟨a1,a2⟩ | ⟨a1,a2,a3,a4⟩
 all_goals
  go_wp2_with fail
  refine (Uh KM _).mono ?_
  rintro _ _ ⟨rfl,hw⟩
  obtain rfl:=hw.symm
  clear hw KM
  have tm:((m:Int) == (j:Int) + 1) = false:=by simp; omega
  have tm1:(j:Int) + 1 ≤ (m:Int):=by omega
  have tm2:(m:Int) ≤ (s.size:Int):=by omega
  have tml:(m:Int) < (s.size:Int):=by omega
  go_wp2_with fail
  refine (Uh KP _).mono ?_
  rintro _ _ ⟨rfl,hw⟩
  obtain rfl:=hw.symm
  clear hw KP
  have hO8:=(Uh HO).1.keep (Uh HX)
  obtain ⟨j0,u0⟩:=hO8.cells 0 (by decide)
  obtain ⟨j1,u1⟩:=hO8.cells 1 (by decide)
  obtain ⟨j2,u2⟩:=hO8.cells 2 (by decide)
  have v0:=hO8.fz 0 (by decide)
  have v1:=hO8.fz 1 (by decide)
  have v2:=hO8.fz 2 (by decide)
  have HR:=Hj (And.intro (three_set wo w.heap.size (.bool false) (.slice none 0 0) (.slice none 0 0) hO8.cells) (ret_Q (w:=w) (gy:=false) hO8 (sl_nil _) (sl_nil _) (fun p hp => by cases hp) (fun p hp => by cases hp) ((Uh HO).2.trans ((Uh HX).mono (Uh HO).2.size)) (Nat.le_refl _)))
  clear hO8
  go_wp2_with fail
  obtain ⟨⟨t0_,t1_,t2_,cc_⟩,hR⟩:=Uh HR
  generalize ((wo.setCell ⟨w.heap.size,0,none⟩ (.bool false)).setCell ⟨w.heap.size,1,none⟩ (.slice none 0 0)).setCell ⟨w.heap.size,2,none⟩ (.slice none 0 0) = wf at *
  refine bodyPost_ret (by simp [results,Tryz.results61,go_sem,t0_,t1_,t2_]; try rfl) rfl ?_
  exact ⟨_,rfl,hR⟩
set_option maxRecDepth 100000 in
set_option maxHeartbeats 32000000 in
theorem wdec_0Lpb1 (s:ByteArray) (g:Bool) (i j:Nat) (w:World) (hs:s.size ≤ 65536) (hij:i < j) (hel:j < s.size) (hl:byA s j = 101 ∨ byA s j = 69) (hsl:j + 1 < s.size) (hs1:byA s (j + 1) = 43) (hs2:byA s (j + 1) ≠ 45) (m:Nat) (hrm:RunK s (j + 1 + 1) m) (hm:j + 1 + 1 < m) (hml:m < s.size) (N:Nat) (hP:∀ W,Calls Tryz.prog 115 #[.string (s.extract (j + 1 + 1) m)] W fun e w' => e = .returned (.int .i64 (N:Nat)) ∧ w' = W) (hN2:N ≤ 4097) :
  Calls Tryz.prog 61 #[.string s,.bool g,.int .i64 (i:Nat),.int .i64 (j:Nat)] w fun e w' => PsPost w w' false [] [] (m:Nat) 5 e:=by
 obtain ⟨wo,hwo⟩:∃ z,w.alloc (.cells #[.bool false,.slice none 0 0,.slice none 0 0] 25) = z:=⟨_,rfl⟩
 have hbo:Below w.heap.size w wo:=by rw [← hwo]; exact bAl
 have hO:=Out.made w
 rw [hwo] at hO
 have HO:=Hj (And.intro hO hbo)
 have HX:=Hj (Below.refl wo.heap.size wo)
 clear hO hbo
 have tij:(i:Int) ≤ (j:Int):=by omega
 have te:(j:Int) < (s.size:Int):=by omega
 have t46:(((s[j]'hel).toNat:Int) == 46) = false:=(byte_not (c:=46) hel (by omega)).1
 have t46':¬ ((s[j]'hel).toNat:Int) = 46:=(byte_not (c:=46) hel (by omega)).2
 have LT:=lett_of hel hl
 have ts:(j:Int) + 1 < (s.size:Int):=by omega
 have t43:(((s[j+1]'hsl).toNat:Int) == 43) = true:=(byte_is (c:=43) hsl hs1).1
 have t43':((s[j+1]'hsl).toNat:Int) = 43:=(byte_is (c:=43) hsl hs1).2
 have t45:(((s[j+1]'hsl).toNat:Int) == 45) = false:=(byte_not (c:=45) hsl hs2).1
 have t45':¬ ((s[j+1]'hsl).toNat:Int) = 45:=(byte_not (c:=45) hsl hs2).2
 have hmt:=hrm.top
 have hml0:=hrm.le
 have KM:=Hj (fun (W:World) => wdigEnd_any s (j + 1 + 1) m W hs hrm)
 clear hrm
 have KP:=Hj hP
 clear hP
 go_enter Tryz.func61,Tryz.ntmps61
 rcases LT with ⟨a1,a2⟩ | ⟨a1,a2,a3,a4⟩
 all_goals
  go_wp2_with fail
  refine (Uh KM _).mono ?_
  rintro _ _ ⟨rfl,hw⟩
  obtain rfl:=hw.symm
  clear hw KM
  have tm:((m:Int) == (j:Int) + 1 + 1) = false:=by simp; omega
  have tm1:(j:Int) + 1 + 1 ≤ (m:Int):=by omega
  have tm2:(m:Int) ≤ (s.size:Int):=by omega
  have tml:(m:Int) < (s.size:Int):=by omega
  go_wp2_with fail
  refine (Uh KP _).mono ?_
  rintro _ _ ⟨rfl,hw⟩
  obtain rfl:=hw.symm
  clear hw KP
  have hO8:=(Uh HO).1.keep (Uh HX)
  obtain ⟨j0,u0⟩:=hO8.cells 0 (by decide)
  obtain ⟨j1,u1⟩:=hO8.cells 1 (by decide)
  obtain ⟨j2,u2⟩:=hO8.cells 2 (by decide)
  have v0:=hO8.fz 0 (by decide)
  have v1:=hO8.fz 1 (by decide)
  have v2:=hO8.fz 2 (by decide)
  have HR:=Hj (And.intro (three_set wo w.heap.size (.bool false) (.slice none 0 0) (.slice none 0 0) hO8.cells) (ret_Q (w:=w) (gy:=false) hO8 (sl_nil _) (sl_nil _) (fun p hp => by cases hp) (fun p hp => by cases hp) ((Uh HO).2.trans ((Uh HX).mono (Uh HO).2.size)) (Nat.le_refl _)))
  clear hO8
  go_wp2_with fail
  obtain ⟨⟨t0_,t1_,t2_,cc_⟩,hR⟩:=Uh HR
  generalize ((wo.setCell ⟨w.heap.size,0,none⟩ (.bool false)).setCell ⟨w.heap.size,1,none⟩ (.slice none 0 0)).setCell ⟨w.heap.size,2,none⟩ (.slice none 0 0) = wf at *
  refine bodyPost_ret (by simp [results,Tryz.results61,go_sem,t0_,t1_,t2_]; try rfl) rfl ?_
  exact ⟨_,rfl,hR⟩
set_option maxRecDepth 100000 in
set_option maxHeartbeats 32000000 in
theorem wdec_0Lmb1 (s:ByteArray) (g:Bool) (i j:Nat) (w:World) (hs:s.size ≤ 65536) (hij:i < j) (hel:j < s.size) (hl:byA s j = 101 ∨ byA s j = 69) (hsl:j + 1 < s.size) (hs1:byA s (j + 1) ≠ 43) (hs2:byA s (j + 1) = 45) (m:Nat) (hrm:RunK s (j + 1 + 1) m) (hm:j + 1 + 1 < m) (hml:m < s.size) (N:Nat) (hP:∀ W,Calls Tryz.prog 115 #[.string (s.extract (j + 1 + 1) m)] W fun e w' => e = .returned (.int .i64 (N:Nat)) ∧ w' = W) (hN2:N ≤ 4097) :
  Calls Tryz.prog 61 #[.string s,.bool g,.int .i64 (i:Nat),.int .i64 (j:Nat)] w fun e w' => PsPost w w' false [] [] (m:Nat) 5 e:=by
 obtain ⟨wo,hwo⟩:∃ z,w.alloc (.cells #[.bool false,.slice none 0 0,.slice none 0 0] 25) = z:=⟨_,rfl⟩
 have hbo:Below w.heap.size w wo:=by rw [← hwo]; exact bAl
 have hO:=Out.made w
 rw [hwo] at hO
 have HO:=Hj (And.intro hO hbo)
 have HX:=Hj (Below.refl wo.heap.size wo)
 clear hO hbo
 have tij:(i:Int) ≤ (j:Int):=by omega
 have te:(j:Int) < (s.size:Int):=by omega
 have t46:(((s[j]'hel).toNat:Int) == 46) = false:=(byte_not (c:=46) hel (by omega)).1
 have t46':¬ ((s[j]'hel).toNat:Int) = 46:=(byte_not (c:=46) hel (by omega)).2
 have LT:=lett_of hel hl
 have ts:(j:Int) + 1 < (s.size:Int):=by omega
 have t43:(((s[j+1]'hsl).toNat:Int) == 43) = false:=(byte_not (c:=43) hsl hs1).1
 have t43':¬ ((s[j+1]'hsl).toNat:Int) = 43:=(byte_not (c:=43) hsl hs1).2
 have t45:(((s[j+1]'hsl).toNat:Int) == 45) = true:=(byte_is (c:=45) hsl hs2).1
 have t45':((s[j+1]'hsl).toNat:Int) = 45:=(byte_is (c:=45) hsl hs2).2
 have hmt:=hrm.top
 have hml0:=hrm.le
 have KM:=Hj (fun (W:World) => wdigEnd_any s (j + 1 + 1) m W hs hrm)
 clear hrm
 have KP:=Hj hP
 clear hP
 go_enter Tryz.func61,Tryz.ntmps61
 rcases LT with ⟨a1,a2⟩ | ⟨a1,a2,a3,a4⟩
 all_goals
  go_wp2_with fail
  refine (Uh KM _).mono ?_
  rintro _ _ ⟨rfl,hw⟩
  obtain rfl:=hw.symm
  clear hw KM
  have tm:((m:Int) == (j:Int) + 1 + 1) = false:=by simp; omega
  have tm1:(j:Int) + 1 + 1 ≤ (m:Int):=by omega
  have tm2:(m:Int) ≤ (s.size:Int):=by omega
  have tml:(m:Int) < (s.size:Int):=by omega
  go_wp2_with fail
  refine (Uh KP _).mono ?_
  rintro _ _ ⟨rfl,hw⟩
  obtain rfl:=hw.symm
  clear hw KP
  have hO8:=(Uh HO).1.keep (Uh HX)
  obtain ⟨j0,u0⟩:=hO8.cells 0 (by decide)
  obtain ⟨j1,u1⟩:=hO8.cells 1 (by decide)
  obtain ⟨j2,u2⟩:=hO8.cells 2 (by decide)
  have v0:=hO8.fz 0 (by decide)
  have v1:=hO8.fz 1 (by decide)
  have v2:=hO8.fz 2 (by decide)
  have HR:=Hj (And.intro (three_set wo w.heap.size (.bool false) (.slice none 0 0) (.slice none 0 0) hO8.cells) (ret_Q (w:=w) (gy:=false) hO8 (sl_nil _) (sl_nil _) (fun p hp => by cases hp) (fun p hp => by cases hp) ((Uh HO).2.trans ((Uh HX).mono (Uh HO).2.size)) (Nat.le_refl _)))
  clear hO8
  go_wp2_with fail
  obtain ⟨⟨t0_,t1_,t2_,cc_⟩,hR⟩:=Uh HR
  generalize ((wo.setCell ⟨w.heap.size,0,none⟩ (.bool false)).setCell ⟨w.heap.size,1,none⟩ (.slice none 0 0)).setCell ⟨w.heap.size,2,none⟩ (.slice none 0 0) = wf at *
  refine bodyPost_ret (by simp [results,Tryz.results61,go_sem,t0_,t1_,t2_]; try rfl) rfl ?_
  exact ⟨_,rfl,hR⟩
end Go.Proofs.YtmnlhnmlgncedaaGreatDoor
