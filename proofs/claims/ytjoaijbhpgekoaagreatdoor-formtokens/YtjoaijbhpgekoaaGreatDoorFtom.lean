/- Ftom -/
import Derived.Test.YtjoaijbhpgekoaaGreatDoorFto
namespace Go.Proofs.YtjoaijbhpgekoaaGreatDoor
open Go.RowKit Go.Deep
set_option linter.unusedVariables false
set_option maxRecDepth 100000 in
set_option maxHeartbeats 16000000 in
theorem n4_mSE (s:ByteArray) (i:Nat) (w:World) (hs:s.size ≤ 65536) (hi:i < s.size) (h91:byA s i = 91) (h1:i + 1 < s.size) (hm:byA s (i + 1) = 45) (n:Nat) (hn:enR dgtN s (i + 1 + 1) = ((i + 1 + 1) + n)) (ha:((i + 1 + 1) + n) < s.size) (hb:byA s ((i + 1 + 1) + n) = 47) (k:Nat) (hk:enR dgtN s (((i + 1 + 1) + n) + 1) = ((i + 1 + 1) + n) + 1 + k) (hz:s.size ≤ (((i + 1 + 1) + n) + 1 + k)) :
  Calls Tryz.prog 26 #[.string s,.int .i64 (i:Nat)] w fun e w' => NuA w w' (0) e:=by
 have R1:=enR_run dgtN s (i:=(i + 1 + 1)) (by omega)
 rw [hn] at R1
 have hnt:=R1.top
 obtain ⟨wo,hwo⟩:∃ z,w.alloc (.cells #[.bool false,.slice none 0 0,.slice none 0 0] 39) = z:=⟨_,rfl⟩
 have hbo:Below w.heap.size w wo:=by rw [← hwo]; exact bAl
 have hO:=Out.made w
 rw [hwo] at hO
 have HO:=Hj (And.intro hO hbo)
 have HX:=Hj (Below.refl wo.heap.size wo)
 clear hO hbo
 have K1:=w4dfrom_any s (i + 1 + 1) wo hs (by omega)
 rw [hn,show ((i + 1 + 1) + n) - (i + 1 + 1) = n by omega] at K1
 have H1:=Hj K1
 have KP1:=Hj (fun (W:World) => wparse4 hs R1 W)
 have KF:=Hj (fun (W:World) => rfrom_any 1 W (by decide))
 have e1:=byA_get s i hi
 have t91:(((s[i]'hi).toNat:Int) == 91) = true:=by simp; omega
 have t91':(((s[i]'hi).toNat:Int) != 91) = false:=by simp; omega
 have ti:(i:Int) < (s.size:Int):=by omega
 have t1:(i:Int) + 1 < (s.size:Int):=by omega
 have e2:=byA_get s (i + 1) h1
 have t45:(((s[i + 1]'h1).toNat:Int) == 45) = true:=by simp; omega
 have R2:=enR_run dgtN s (i:=((i + 1 + 1) + n) + 1) (by omega)
 rw [hk] at R2
 have hkt:=R2.top
 have K2:=Hj (fun (W:World) => w4dfrom_any s (((i + 1 + 1) + n) + 1) W hs (by omega))
 have EK:=Hj (show enR dgtN s (((i + 1 + 1) + n) + 1) - (((i + 1 + 1) + n) + 1) = k by rw [hk]; omega)
 have KP2:=Hj (fun (W:World) => wparse4 hs R2 W)
 have e3:=byA_get s ((i + 1 + 1) + n) ha
 have t47:(((s[((i + 1 + 1) + n)]'ha).toNat:Int) == 47) = true:=by simp; omega
 have ta:((((i + 1 + 1) + n):Nat):Int) < (s.size:Int):=by omega
 have ta1:(i:Int) + 1 + 1 + (n:Int) ≤ (s.size:Int):=by omega
 have ta2:(i:Int) + 1 + 1 + (n:Int) < (s.size:Int):=by omega
 have ta3:(i:Int) + 1 + 1 + (n:Int) + 1 + (k:Int) ≤ (s.size:Int):=by omega
 have tz:(s.size:Int) ≤ (i:Int) + 1 + 1 + (n:Int) + 1 + (k:Int):=by omega
 obtain ⟨er1,her1⟩:∃ q,erD s (i + 1 + 1) ((i + 1 + 1) + n) = q:=⟨_,rfl⟩
 rw [her1] at KP1
 obtain ⟨er2,her2⟩:∃ q,erD s (((i + 1 + 1) + n) + 1) (((i + 1 + 1) + n) + 1 + k) = q:=⟨_,rfl⟩
 rw [her2] at KP2
 clear K1 hn e1 her1 R1 e2 hm e3 R2 hk hb her2
 go_enter Tryz.func26,Tryz.ntmps26
 go_wp2_with fail
 refine (Uh H1).mono ?_
 rintro _ _ ⟨rfl,hw⟩
 obtain rfl:=hw.symm
 clear hw H1
 go_wp2_with fail
 refine (Uh KP1 _).mono ?_
 rintro _ w2 ⟨a2,n2,c2,xs,rfl,s2,ox,hx2,b2⟩
 have HS2:=Hj (And.intro s2 ox)
 have HB2:=Hj b2
 clear s2 ox b2 hx2
 go_wp2_with fail
 refine (Uh KF _).mono ?_
 rintro _ w3 ⟨a3,n3,ys,rfl,s3,hr3,na3,b3⟩
 obtain ⟨oy,tn3⟩:=from1 s3 hr3
 have HS3:=Hj (And.intro ((Uh HS2).1.below b3) (And.intro (Uh HS2).2 (And.intro s3 oy)))
 have HB3:=Hj ((Uh HB2).trans (b3.mono (Uh HB2).size))
 clear s3 oy b3 HS2 HB2 hr3 na3
 go_wp2_with fail
 refine (Uh K2 _).mono ?_
 rintro _ _ ⟨rfl,hw⟩
 obtain rfl:=hw.symm
 clear hw K2
 rw [Uh EK]
 go_wp2_with fail
 refine (Uh KP2 _).mono ?_
 rintro _ w4 ⟨a4,n4,c4,zs,rfl,s4,oz,hx4,b4⟩
 have HS4:=Hj (And.intro ((Uh HS3).1.below b4) (And.intro (Uh HS3).2.1 (And.intro s4 oz)))
 have HB4:=Hj ((Uh HB3).trans (b4.mono (Uh HB3).size))
 clear s4 oz b4 HS3 HB3 hx4
 have hO8:=(Uh HO).1.keep (Uh HB4)
 obtain ⟨j0,u0⟩:=hO8.cells 0 (by decide)
 obtain ⟨j1,u1⟩:=hO8.cells 1 (by decide)
 obtain ⟨j2,u2⟩:=hO8.cells 2 (by decide)
 have v0:=hO8.fz 0 (by decide)
 have v1:=hO8.fz 1 (by decide)
 have v2:=hO8.fz 2 (by decide)
 have HR:=Hj (And.intro (three_set w4 w.heap.size (.bool false) (.slice none 0 0) (.slice none 0 0) hO8.cells) ((Uh HO).2.trans ((Uh HB4).mono (Uh HO).2.size)))
 clear hO8
 go_wp2_with fail
 obtain ⟨⟨t0_,t1_,t2_,cc_⟩,hR⟩:=Uh HR
 generalize ((w4.setCell ⟨w.heap.size,0,none⟩ (.bool false)).setCell ⟨w.heap.size,1,none⟩ (.slice none 0 0)).setCell ⟨w.heap.size,2,none⟩ (.slice none 0 0) = wf at *
 refine bodyPost_ret (by simp [results,Tryz.results26,go_sem,t0_,t1_,t2_]; try rfl) rfl ?_
 exact ⟨_,_,_,_,_,_,_,rfl,hR.trans (cc_.below hR.size (fun k hk => by omega))⟩
set_option maxRecDepth 100000 in
set_option maxHeartbeats 16000000 in
theorem n4_mSB (s:ByteArray) (i:Nat) (w:World) (hs:s.size ≤ 65536) (hi:i < s.size) (h91:byA s i = 91) (h1:i + 1 < s.size) (hm:byA s (i + 1) = 45) (n:Nat) (hn:enR dgtN s (i + 1 + 1) = ((i + 1 + 1) + n)) (ha:((i + 1 + 1) + n) < s.size) (hb:byA s ((i + 1 + 1) + n) = 47) (k:Nat) (hk:enR dgtN s (((i + 1 + 1) + n) + 1) = ((i + 1 + 1) + n) + 1 + k) (hz:(((i + 1 + 1) + n) + 1 + k) < s.size) (hc:byA s (((i + 1 + 1) + n) + 1 + k) ≠ 93) :
  Calls Tryz.prog 26 #[.string s,.int .i64 (i:Nat)] w fun e w' => NuA w w' (0) e:=by
 have R1:=enR_run dgtN s (i:=(i + 1 + 1)) (by omega)
 rw [hn] at R1
 have hnt:=R1.top
 obtain ⟨wo,hwo⟩:∃ z,w.alloc (.cells #[.bool false,.slice none 0 0,.slice none 0 0] 39) = z:=⟨_,rfl⟩
 have hbo:Below w.heap.size w wo:=by rw [← hwo]; exact bAl
 have hO:=Out.made w
 rw [hwo] at hO
 have HO:=Hj (And.intro hO hbo)
 have HX:=Hj (Below.refl wo.heap.size wo)
 clear hO hbo
 have K1:=w4dfrom_any s (i + 1 + 1) wo hs (by omega)
 rw [hn,show ((i + 1 + 1) + n) - (i + 1 + 1) = n by omega] at K1
 have H1:=Hj K1
 have KP1:=Hj (fun (W:World) => wparse4 hs R1 W)
 have KF:=Hj (fun (W:World) => rfrom_any 1 W (by decide))
 have e1:=byA_get s i hi
 have t91:(((s[i]'hi).toNat:Int) == 91) = true:=by simp; omega
 have t91':(((s[i]'hi).toNat:Int) != 91) = false:=by simp; omega
 have ti:(i:Int) < (s.size:Int):=by omega
 have t1:(i:Int) + 1 < (s.size:Int):=by omega
 have e2:=byA_get s (i + 1) h1
 have t45:(((s[i + 1]'h1).toNat:Int) == 45) = true:=by simp; omega
 have R2:=enR_run dgtN s (i:=((i + 1 + 1) + n) + 1) (by omega)
 rw [hk] at R2
 have hkt:=R2.top
 have K2:=Hj (fun (W:World) => w4dfrom_any s (((i + 1 + 1) + n) + 1) W hs (by omega))
 have EK:=Hj (show enR dgtN s (((i + 1 + 1) + n) + 1) - (((i + 1 + 1) + n) + 1) = k by rw [hk]; omega)
 have KP2:=Hj (fun (W:World) => wparse4 hs R2 W)
 have e3:=byA_get s ((i + 1 + 1) + n) ha
 have t47:(((s[((i + 1 + 1) + n)]'ha).toNat:Int) == 47) = true:=by simp; omega
 have ta:((((i + 1 + 1) + n):Nat):Int) < (s.size:Int):=by omega
 have e4:=byA_get s (((i + 1 + 1) + n) + 1 + k) hz
 have t93:(((s[(((i + 1 + 1) + n) + 1 + k)]'hz).toNat:Int) == 93) = false:=by simp; omega
 have t93':(((s[(((i + 1 + 1) + n) + 1 + k)]'hz).toNat:Int) != 93) = true:=by simp; omega
 have ta1:(i:Int) + 1 + 1 + (n:Int) ≤ (s.size:Int):=by omega
 have ta2:(i:Int) + 1 + 1 + (n:Int) < (s.size:Int):=by omega
 have ta3:(i:Int) + 1 + 1 + (n:Int) + 1 + (k:Int) ≤ (s.size:Int):=by omega
 have tz:¬ (s.size:Int) ≤ (i:Int) + 1 + 1 + (n:Int) + 1 + (k:Int):=by omega
 obtain ⟨er1,her1⟩:∃ q,erD s (i + 1 + 1) ((i + 1 + 1) + n) = q:=⟨_,rfl⟩
 rw [her1] at KP1
 obtain ⟨er2,her2⟩:∃ q,erD s (((i + 1 + 1) + n) + 1) (((i + 1 + 1) + n) + 1 + k) = q:=⟨_,rfl⟩
 rw [her2] at KP2
 clear K1 hn e1 her1 R1 e2 hm e3 R2 hk hb her2 e4 hc
 go_enter Tryz.func26,Tryz.ntmps26
 go_wp2_with fail
 refine (Uh H1).mono ?_
 rintro _ _ ⟨rfl,hw⟩
 obtain rfl:=hw.symm
 clear hw H1
 go_wp2_with fail
 refine (Uh KP1 _).mono ?_
 rintro _ w2 ⟨a2,n2,c2,xs,rfl,s2,ox,hx2,b2⟩
 have HS2:=Hj (And.intro s2 ox)
 have HB2:=Hj b2
 clear s2 ox b2 hx2
 go_wp2_with fail
 refine (Uh KF _).mono ?_
 rintro _ w3 ⟨a3,n3,ys,rfl,s3,hr3,na3,b3⟩
 obtain ⟨oy,tn3⟩:=from1 s3 hr3
 have HS3:=Hj (And.intro ((Uh HS2).1.below b3) (And.intro (Uh HS2).2 (And.intro s3 oy)))
 have HB3:=Hj ((Uh HB2).trans (b3.mono (Uh HB2).size))
 clear s3 oy b3 HS2 HB2 hr3 na3
 go_wp2_with fail
 refine (Uh K2 _).mono ?_
 rintro _ _ ⟨rfl,hw⟩
 obtain rfl:=hw.symm
 clear hw K2
 rw [Uh EK]
 go_wp2_with fail
 refine (Uh KP2 _).mono ?_
 rintro _ w4 ⟨a4,n4,c4,zs,rfl,s4,oz,hx4,b4⟩
 have HS4:=Hj (And.intro ((Uh HS3).1.below b4) (And.intro (Uh HS3).2.1 (And.intro s4 oz)))
 have HB4:=Hj ((Uh HB3).trans (b4.mono (Uh HB3).size))
 clear s4 oz b4 HS3 HB3 hx4
 have hO8:=(Uh HO).1.keep (Uh HB4)
 obtain ⟨j0,u0⟩:=hO8.cells 0 (by decide)
 obtain ⟨j1,u1⟩:=hO8.cells 1 (by decide)
 obtain ⟨j2,u2⟩:=hO8.cells 2 (by decide)
 have v0:=hO8.fz 0 (by decide)
 have v1:=hO8.fz 1 (by decide)
 have v2:=hO8.fz 2 (by decide)
 have HR:=Hj (And.intro (three_set w4 w.heap.size (.bool false) (.slice none 0 0) (.slice none 0 0) hO8.cells) ((Uh HO).2.trans ((Uh HB4).mono (Uh HO).2.size)))
 clear hO8
 go_wp2_with fail
 obtain ⟨⟨t0_,t1_,t2_,cc_⟩,hR⟩:=Uh HR
 generalize ((w4.setCell ⟨w.heap.size,0,none⟩ (.bool false)).setCell ⟨w.heap.size,1,none⟩ (.slice none 0 0)).setCell ⟨w.heap.size,2,none⟩ (.slice none 0 0) = wf at *
 refine bodyPost_ret (by simp [results,Tryz.results26,go_sem,t0_,t1_,t2_]; try rfl) rfl ?_
 exact ⟨_,_,_,_,_,_,_,rfl,hR.trans (cc_.below hR.size (fun k hk => by omega))⟩
set_option maxRecDepth 100000 in
set_option maxHeartbeats 16000000 in
theorem n4_mSX (s:ByteArray) (i:Nat) (w:World) (hs:s.size ≤ 65536) (hi:i < s.size) (h91:byA s i = 91) (h1:i + 1 < s.size) (hm:byA s (i + 1) = 45) (n:Nat) (hn:enR dgtN s (i + 1 + 1) = ((i + 1 + 1) + n)) (ha:((i + 1 + 1) + n) < s.size) (hb:byA s ((i + 1 + 1) + n) = 47) (k:Nat) (hk:enR dgtN s (((i + 1 + 1) + n) + 1) = ((i + 1 + 1) + n) + 1 + k) (hz:(((i + 1 + 1) + n) + 1 + k) < s.size) (hc:byA s (((i + 1 + 1) + n) + 1 + k) = 93) (he:erD s (i + 1 + 1) ((i + 1 + 1) + n) ≠ 0) :
  Calls Tryz.prog 26 #[.string s,.int .i64 (i:Nat)] w fun e w' => NuA w w' (0) e:=by
 have R1:=enR_run dgtN s (i:=(i + 1 + 1)) (by omega)
 rw [hn] at R1
 have hnt:=R1.top
 obtain ⟨wo,hwo⟩:∃ z,w.alloc (.cells #[.bool false,.slice none 0 0,.slice none 0 0] 39) = z:=⟨_,rfl⟩
 have hbo:Below w.heap.size w wo:=by rw [← hwo]; exact bAl
 have hO:=Out.made w
 rw [hwo] at hO
 have HO:=Hj (And.intro hO hbo)
 have HX:=Hj (Below.refl wo.heap.size wo)
 clear hO hbo
 have K1:=w4dfrom_any s (i + 1 + 1) wo hs (by omega)
 rw [hn,show ((i + 1 + 1) + n) - (i + 1 + 1) = n by omega] at K1
 have H1:=Hj K1
 have KP1:=Hj (fun (W:World) => wparse4 hs R1 W)
 have KF:=Hj (fun (W:World) => rfrom_any 1 W (by decide))
 have e1:=byA_get s i hi
 have t91:(((s[i]'hi).toNat:Int) == 91) = true:=by simp; omega
 have t91':(((s[i]'hi).toNat:Int) != 91) = false:=by simp; omega
 have ti:(i:Int) < (s.size:Int):=by omega
 have t1:(i:Int) + 1 < (s.size:Int):=by omega
 have e2:=byA_get s (i + 1) h1
 have t45:(((s[i + 1]'h1).toNat:Int) == 45) = true:=by simp; omega
 have R2:=enR_run dgtN s (i:=((i + 1 + 1) + n) + 1) (by omega)
 rw [hk] at R2
 have hkt:=R2.top
 have K2:=Hj (fun (W:World) => w4dfrom_any s (((i + 1 + 1) + n) + 1) W hs (by omega))
 have EK:=Hj (show enR dgtN s (((i + 1 + 1) + n) + 1) - (((i + 1 + 1) + n) + 1) = k by rw [hk]; omega)
 have KP2:=Hj (fun (W:World) => wparse4 hs R2 W)
 have e3:=byA_get s ((i + 1 + 1) + n) ha
 have t47:(((s[((i + 1 + 1) + n)]'ha).toNat:Int) == 47) = true:=by simp; omega
 have ta:((((i + 1 + 1) + n):Nat):Int) < (s.size:Int):=by omega
 have e4:=byA_get s (((i + 1 + 1) + n) + 1 + k) hz
 have t93:(((s[(((i + 1 + 1) + n) + 1 + k)]'hz).toNat:Int) == 93) = true:=by simp; omega
 have t93':(((s[(((i + 1 + 1) + n) + 1 + k)]'hz).toNat:Int) != 93) = false:=by simp; omega
 have ta1:(i:Int) + 1 + 1 + (n:Int) ≤ (s.size:Int):=by omega
 have ta2:(i:Int) + 1 + 1 + (n:Int) < (s.size:Int):=by omega
 have ta3:(i:Int) + 1 + 1 + (n:Int) + 1 + (k:Int) ≤ (s.size:Int):=by omega
 have tz:¬ (s.size:Int) ≤ (i:Int) + 1 + 1 + (n:Int) + 1 + (k:Int):=by omega
 obtain ⟨er1,her1⟩:∃ q,erD s (i + 1 + 1) ((i + 1 + 1) + n) = q:=⟨_,rfl⟩
 rw [her1] at KP1
 have te1:((er1:Int) != 0) = true:=by rw [← her1]; simpa using he
 have te1':((er1:Int) == 0) = false:=by rw [← her1]; simpa using he
 obtain ⟨er2,her2⟩:∃ q,erD s (((i + 1 + 1) + n) + 1) (((i + 1 + 1) + n) + 1 + k) = q:=⟨_,rfl⟩
 rw [her2] at KP2
 clear K1 hn e1 her1 R1 e2 hm e3 R2 hk hb her2 e4 hc he
 go_enter Tryz.func26,Tryz.ntmps26
 go_wp2_with fail
 refine (Uh H1).mono ?_
 rintro _ _ ⟨rfl,hw⟩
 obtain rfl:=hw.symm
 clear hw H1
 go_wp2_with fail
 refine (Uh KP1 _).mono ?_
 rintro _ w2 ⟨a2,n2,c2,xs,rfl,s2,ox,hx2,b2⟩
 have HS2:=Hj (And.intro s2 ox)
 have HB2:=Hj b2
 clear s2 ox b2 hx2
 go_wp2_with fail
 refine (Uh KF _).mono ?_
 rintro _ w3 ⟨a3,n3,ys,rfl,s3,hr3,na3,b3⟩
 obtain ⟨oy,tn3⟩:=from1 s3 hr3
 have HS3:=Hj (And.intro ((Uh HS2).1.below b3) (And.intro (Uh HS2).2 (And.intro s3 oy)))
 have HB3:=Hj ((Uh HB2).trans (b3.mono (Uh HB2).size))
 clear s3 oy b3 HS2 HB2 hr3 na3
 go_wp2_with fail
 refine (Uh K2 _).mono ?_
 rintro _ _ ⟨rfl,hw⟩
 obtain rfl:=hw.symm
 clear hw K2
 rw [Uh EK]
 go_wp2_with fail
 refine (Uh KP2 _).mono ?_
 rintro _ w4 ⟨a4,n4,c4,zs,rfl,s4,oz,hx4,b4⟩
 have HS4:=Hj (And.intro ((Uh HS3).1.below b4) (And.intro (Uh HS3).2.1 (And.intro s4 oz)))
 have HB4:=Hj ((Uh HB3).trans (b4.mono (Uh HB3).size))
 clear s4 oz b4 HS3 HB3 hx4
 have hO8:=(Uh HO).1.keep (Uh HB4)
 obtain ⟨j0,u0⟩:=hO8.cells 0 (by decide)
 obtain ⟨j1,u1⟩:=hO8.cells 1 (by decide)
 obtain ⟨j2,u2⟩:=hO8.cells 2 (by decide)
 have v0:=hO8.fz 0 (by decide)
 have v1:=hO8.fz 1 (by decide)
 have v2:=hO8.fz 2 (by decide)
 have HR:=Hj (And.intro (three_set w4 w.heap.size (.bool false) (.slice none 0 0) (.slice none 0 0) hO8.cells) ((Uh HO).2.trans ((Uh HB4).mono (Uh HO).2.size)))
 clear hO8
 go_wp2_with fail
 obtain ⟨⟨t0_,t1_,t2_,cc_⟩,hR⟩:=Uh HR
 generalize ((w4.setCell ⟨w.heap.size,0,none⟩ (.bool false)).setCell ⟨w.heap.size,1,none⟩ (.slice none 0 0)).setCell ⟨w.heap.size,2,none⟩ (.slice none 0 0) = wf at *
 refine bodyPost_ret (by simp [results,Tryz.results26,go_sem,t0_,t1_,t2_]; try rfl) rfl ?_
 exact ⟨_,_,_,_,_,_,_,rfl,hR.trans (cc_.below hR.size (fun k hk => by omega))⟩
set_option maxRecDepth 100000 in
set_option maxHeartbeats 16000000 in
theorem n4_mSF (s:ByteArray) (i:Nat) (w:World) (hs:s.size ≤ 65536) (hi:i < s.size) (h91:byA s i = 91) (h1:i + 1 < s.size) (hm:byA s (i + 1) = 45) (n:Nat) (hn:enR dgtN s (i + 1 + 1) = ((i + 1 + 1) + n)) (ha:((i + 1 + 1) + n) < s.size) (hb:byA s ((i + 1 + 1) + n) = 47) (k:Nat) (hk:enR dgtN s (((i + 1 + 1) + n) + 1) = ((i + 1 + 1) + n) + 1 + k) (hz:(((i + 1 + 1) + n) + 1 + k) < s.size) (hc:byA s (((i + 1 + 1) + n) + 1 + k) = 93) (he:erD s (i + 1 + 1) ((i + 1 + 1) + n) = 0) (hf:erD s (((i + 1 + 1) + n) + 1) (((i + 1 + 1) + n) + 1 + k) ≠ 0) :
  Calls Tryz.prog 26 #[.string s,.int .i64 (i:Nat)] w fun e w' => NuA w w' (0) e:=by
 have R1:=enR_run dgtN s (i:=(i + 1 + 1)) (by omega)
 rw [hn] at R1
 have hnt:=R1.top
 obtain ⟨wo,hwo⟩:∃ z,w.alloc (.cells #[.bool false,.slice none 0 0,.slice none 0 0] 39) = z:=⟨_,rfl⟩
 have hbo:Below w.heap.size w wo:=by rw [← hwo]; exact bAl
 have hO:=Out.made w
 rw [hwo] at hO
 have HO:=Hj (And.intro hO hbo)
 have HX:=Hj (Below.refl wo.heap.size wo)
 clear hO hbo
 have K1:=w4dfrom_any s (i + 1 + 1) wo hs (by omega)
 rw [hn,show ((i + 1 + 1) + n) - (i + 1 + 1) = n by omega] at K1
 have H1:=Hj K1
 have KP1:=Hj (fun (W:World) => wparse4 hs R1 W)
 have KF:=Hj (fun (W:World) => rfrom_any 1 W (by decide))
 have e1:=byA_get s i hi
 have t91:(((s[i]'hi).toNat:Int) == 91) = true:=by simp; omega
 have t91':(((s[i]'hi).toNat:Int) != 91) = false:=by simp; omega
 have ti:(i:Int) < (s.size:Int):=by omega
 have t1:(i:Int) + 1 < (s.size:Int):=by omega
 have e2:=byA_get s (i + 1) h1
 have t45:(((s[i + 1]'h1).toNat:Int) == 45) = true:=by simp; omega
 have R2:=enR_run dgtN s (i:=((i + 1 + 1) + n) + 1) (by omega)
 rw [hk] at R2
 have hkt:=R2.top
 have K2:=Hj (fun (W:World) => w4dfrom_any s (((i + 1 + 1) + n) + 1) W hs (by omega))
 have EK:=Hj (show enR dgtN s (((i + 1 + 1) + n) + 1) - (((i + 1 + 1) + n) + 1) = k by rw [hk]; omega)
 have KP2:=Hj (fun (W:World) => wparse4 hs R2 W)
 have e3:=byA_get s ((i + 1 + 1) + n) ha
 have t47:(((s[((i + 1 + 1) + n)]'ha).toNat:Int) == 47) = true:=by simp; omega
 have ta:((((i + 1 + 1) + n):Nat):Int) < (s.size:Int):=by omega
 have e4:=byA_get s (((i + 1 + 1) + n) + 1 + k) hz
 have t93:(((s[(((i + 1 + 1) + n) + 1 + k)]'hz).toNat:Int) == 93) = true:=by simp; omega
 have t93':(((s[(((i + 1 + 1) + n) + 1 + k)]'hz).toNat:Int) != 93) = false:=by simp; omega
 have ta1:(i:Int) + 1 + 1 + (n:Int) ≤ (s.size:Int):=by omega
 have ta2:(i:Int) + 1 + 1 + (n:Int) < (s.size:Int):=by omega
 have ta3:(i:Int) + 1 + 1 + (n:Int) + 1 + (k:Int) ≤ (s.size:Int):=by omega
 have tz:¬ (s.size:Int) ≤ (i:Int) + 1 + 1 + (n:Int) + 1 + (k:Int):=by omega
 obtain ⟨er1,her1⟩:∃ q,erD s (i + 1 + 1) ((i + 1 + 1) + n) = q:=⟨_,rfl⟩
 rw [her1] at KP1
 have te1:((er1:Int) != 0) = false:=by rw [← her1,he]; rfl
 have te1':((er1:Int) == 0) = true:=by rw [← her1,he]; rfl
 obtain ⟨er2,her2⟩:∃ q,erD s (((i + 1 + 1) + n) + 1) (((i + 1 + 1) + n) + 1 + k) = q:=⟨_,rfl⟩
 rw [her2] at KP2
 have te2:((er2:Int) != 0) = true:=by rw [← her2]; simpa using hf
 have te2':((er2:Int) == 0) = false:=by rw [← her2]; simpa using hf
 clear K1 hn e1 her1 R1 e2 hm e3 R2 hk hb her2 e4 hc he hf
 go_enter Tryz.func26,Tryz.ntmps26
 go_wp2_with fail
 refine (Uh H1).mono ?_
 rintro _ _ ⟨rfl,hw⟩
 obtain rfl:=hw.symm
 clear hw H1
 go_wp2_with fail
 refine (Uh KP1 _).mono ?_
 rintro _ w2 ⟨a2,n2,c2,xs,rfl,s2,ox,hx2,b2⟩
 have HS2:=Hj (And.intro s2 ox)
 have HB2:=Hj b2
 clear s2 ox b2 hx2
 go_wp2_with fail
 refine (Uh KF _).mono ?_
 rintro _ w3 ⟨a3,n3,ys,rfl,s3,hr3,na3,b3⟩
 obtain ⟨oy,tn3⟩:=from1 s3 hr3
 have HS3:=Hj (And.intro ((Uh HS2).1.below b3) (And.intro (Uh HS2).2 (And.intro s3 oy)))
 have HB3:=Hj ((Uh HB2).trans (b3.mono (Uh HB2).size))
 clear s3 oy b3 HS2 HB2 hr3 na3
 go_wp2_with fail
 refine (Uh K2 _).mono ?_
 rintro _ _ ⟨rfl,hw⟩
 obtain rfl:=hw.symm
 clear hw K2
 rw [Uh EK]
 go_wp2_with fail
 refine (Uh KP2 _).mono ?_
 rintro _ w4 ⟨a4,n4,c4,zs,rfl,s4,oz,hx4,b4⟩
 have HS4:=Hj (And.intro ((Uh HS3).1.below b4) (And.intro (Uh HS3).2.1 (And.intro s4 oz)))
 have HB4:=Hj ((Uh HB3).trans (b4.mono (Uh HB3).size))
 clear s4 oz b4 HS3 HB3 hx4
 have hO8:=(Uh HO).1.keep (Uh HB4)
 obtain ⟨j0,u0⟩:=hO8.cells 0 (by decide)
 obtain ⟨j1,u1⟩:=hO8.cells 1 (by decide)
 obtain ⟨j2,u2⟩:=hO8.cells 2 (by decide)
 have v0:=hO8.fz 0 (by decide)
 have v1:=hO8.fz 1 (by decide)
 have v2:=hO8.fz 2 (by decide)
 have HR:=Hj (And.intro (three_set w4 w.heap.size (.bool false) (.slice none 0 0) (.slice none 0 0) hO8.cells) ((Uh HO).2.trans ((Uh HB4).mono (Uh HO).2.size)))
 clear hO8
 go_wp2_with fail
 obtain ⟨⟨t0_,t1_,t2_,cc_⟩,hR⟩:=Uh HR
 generalize ((w4.setCell ⟨w.heap.size,0,none⟩ (.bool false)).setCell ⟨w.heap.size,1,none⟩ (.slice none 0 0)).setCell ⟨w.heap.size,2,none⟩ (.slice none 0 0) = wf at *
 refine bodyPost_ret (by simp [results,Tryz.results26,go_sem,t0_,t1_,t2_]; try rfl) rfl ?_
 exact ⟨_,_,_,_,_,_,_,rfl,hR.trans (cc_.below hR.size (fun k hk => by omega))⟩
set_option maxRecDepth 100000 in
set_option maxHeartbeats 16000000 in
theorem n4_mSZ (s:ByteArray) (i:Nat) (w:World) (hs:s.size ≤ 65536) (hi:i < s.size) (h91:byA s i = 91) (h1:i + 1 < s.size) (hm:byA s (i + 1) = 45) (n:Nat) (hn:enR dgtN s (i + 1 + 1) = ((i + 1 + 1) + n)) (ha:((i + 1 + 1) + n) < s.size) (hb:byA s ((i + 1 + 1) + n) = 47) (k:Nat) (hk:enR dgtN s (((i + 1 + 1) + n) + 1) = ((i + 1 + 1) + n) + 1 + k) (hz:(((i + 1 + 1) + n) + 1 + k) < s.size) (hc:byA s (((i + 1 + 1) + n) + 1 + k) = 93) (he:erD s (i + 1 + 1) ((i + 1 + 1) + n) = 0) (hf:erD s (((i + 1 + 1) + n) + 1) (((i + 1 + 1) + n) + 1 + k) = 0) (hv:zsD s (((i + 1 + 1) + n) + 1) (((i + 1 + 1) + n) + 1 + k) = []) :
  Calls Tryz.prog 26 #[.string s,.int .i64 (i:Nat)] w fun e w' => NuA w w' (0) e:=by
 have R1:=enR_run dgtN s (i:=(i + 1 + 1)) (by omega)
 rw [hn] at R1
 have hnt:=R1.top
 obtain ⟨wo,hwo⟩:∃ z,w.alloc (.cells #[.bool false,.slice none 0 0,.slice none 0 0] 39) = z:=⟨_,rfl⟩
 have hbo:Below w.heap.size w wo:=by rw [← hwo]; exact bAl
 have hO:=Out.made w
 rw [hwo] at hO
 have HO:=Hj (And.intro hO hbo)
 have HX:=Hj (Below.refl wo.heap.size wo)
 clear hO hbo
 have K1:=w4dfrom_any s (i + 1 + 1) wo hs (by omega)
 rw [hn,show ((i + 1 + 1) + n) - (i + 1 + 1) = n by omega] at K1
 have H1:=Hj K1
 have KP1:=Hj (fun (W:World) => wparse4 hs R1 W)
 have KF:=Hj (fun (W:World) => rfrom_any 1 W (by decide))
 have e1:=byA_get s i hi
 have t91:(((s[i]'hi).toNat:Int) == 91) = true:=by simp; omega
 have t91':(((s[i]'hi).toNat:Int) != 91) = false:=by simp; omega
 have ti:(i:Int) < (s.size:Int):=by omega
 have t1:(i:Int) + 1 < (s.size:Int):=by omega
 have e2:=byA_get s (i + 1) h1
 have t45:(((s[i + 1]'h1).toNat:Int) == 45) = true:=by simp; omega
 have R2:=enR_run dgtN s (i:=((i + 1 + 1) + n) + 1) (by omega)
 rw [hk] at R2
 have hkt:=R2.top
 have K2:=Hj (fun (W:World) => w4dfrom_any s (((i + 1 + 1) + n) + 1) W hs (by omega))
 have EK:=Hj (show enR dgtN s (((i + 1 + 1) + n) + 1) - (((i + 1 + 1) + n) + 1) = k by rw [hk]; omega)
 have KP2:=Hj (fun (W:World) => wparse4 hs R2 W)
 have e3:=byA_get s ((i + 1 + 1) + n) ha
 have t47:(((s[((i + 1 + 1) + n)]'ha).toNat:Int) == 47) = true:=by simp; omega
 have ta:((((i + 1 + 1) + n):Nat):Int) < (s.size:Int):=by omega
 have e4:=byA_get s (((i + 1 + 1) + n) + 1 + k) hz
 have t93:(((s[(((i + 1 + 1) + n) + 1 + k)]'hz).toNat:Int) == 93) = true:=by simp; omega
 have t93':(((s[(((i + 1 + 1) + n) + 1 + k)]'hz).toNat:Int) != 93) = false:=by simp; omega
 have ta1:(i:Int) + 1 + 1 + (n:Int) ≤ (s.size:Int):=by omega
 have ta2:(i:Int) + 1 + 1 + (n:Int) < (s.size:Int):=by omega
 have ta3:(i:Int) + 1 + 1 + (n:Int) + 1 + (k:Int) ≤ (s.size:Int):=by omega
 have tz:¬ (s.size:Int) ≤ (i:Int) + 1 + 1 + (n:Int) + 1 + (k:Int):=by omega
 obtain ⟨er1,her1⟩:∃ q,erD s (i + 1 + 1) ((i + 1 + 1) + n) = q:=⟨_,rfl⟩
 rw [her1] at KP1
 have te1:((er1:Int) != 0) = false:=by rw [← her1,he]; rfl
 have te1':((er1:Int) == 0) = true:=by rw [← her1,he]; rfl
 obtain ⟨er2,her2⟩:∃ q,erD s (((i + 1 + 1) + n) + 1) (((i + 1 + 1) + n) + 1 + k) = q:=⟨_,rfl⟩
 rw [her2] at KP2
 have te2:((er2:Int) != 0) = false:=by rw [← her2,hf]; rfl
 have te2':((er2:Int) == 0) = true:=by rw [← her2,hf]; rfl
 have HV:=Hj hv
 clear K1 hn e1 her1 R1 e2 hm e3 R2 hk hb her2 e4 hc he hf hv
 go_enter Tryz.func26,Tryz.ntmps26
 go_wp2_with fail
 refine (Uh H1).mono ?_
 rintro _ _ ⟨rfl,hw⟩
 obtain rfl:=hw.symm
 clear hw H1
 go_wp2_with fail
 refine (Uh KP1 _).mono ?_
 rintro _ w2 ⟨a2,n2,c2,xs,rfl,s2,ox,hx2,b2⟩
 have HS2:=Hj (And.intro s2 ox)
 have HB2:=Hj b2
 clear s2 ox b2 hx2
 go_wp2_with fail
 refine (Uh KF _).mono ?_
 rintro _ w3 ⟨a3,n3,ys,rfl,s3,hr3,na3,b3⟩
 obtain ⟨oy,tn3⟩:=from1 s3 hr3
 have HS3:=Hj (And.intro ((Uh HS2).1.below b3) (And.intro (Uh HS2).2 (And.intro s3 oy)))
 have HB3:=Hj ((Uh HB2).trans (b3.mono (Uh HB2).size))
 clear s3 oy b3 HS2 HB2 hr3 na3
 go_wp2_with fail
 refine (Uh K2 _).mono ?_
 rintro _ _ ⟨rfl,hw⟩
 obtain rfl:=hw.symm
 clear hw K2
 rw [Uh EK]
 go_wp2_with fail
 refine (Uh KP2 _).mono ?_
 rintro _ w4 ⟨a4,n4,c4,zs,rfl,s4,oz,hx4,b4⟩
 have tn4:((n4:Int) == 0) = true:=by
  have h1:=s4.len
  have h2:=Uh HV
  rw [← hx4] at h2
  rw [h2] at h1; simp at h1; simp; omega
 have HS4:=Hj (And.intro ((Uh HS3).1.below b4) (And.intro (Uh HS3).2.1 (And.intro s4 oz)))
 have HB4:=Hj ((Uh HB3).trans (b4.mono (Uh HB3).size))
 clear s4 oz b4 HS3 HB3 hx4
 have hO8:=(Uh HO).1.keep (Uh HB4)
 obtain ⟨j0,u0⟩:=hO8.cells 0 (by decide)
 obtain ⟨j1,u1⟩:=hO8.cells 1 (by decide)
 obtain ⟨j2,u2⟩:=hO8.cells 2 (by decide)
 have v0:=hO8.fz 0 (by decide)
 have v1:=hO8.fz 1 (by decide)
 have v2:=hO8.fz 2 (by decide)
 have HR:=Hj (And.intro (three_set w4 w.heap.size (.bool false) (.slice none 0 0) (.slice none 0 0) hO8.cells) ((Uh HO).2.trans ((Uh HB4).mono (Uh HO).2.size)))
 clear hO8
 go_wp2_with fail
 obtain ⟨⟨t0_,t1_,t2_,cc_⟩,hR⟩:=Uh HR
 generalize ((w4.setCell ⟨w.heap.size,0,none⟩ (.bool false)).setCell ⟨w.heap.size,1,none⟩ (.slice none 0 0)).setCell ⟨w.heap.size,2,none⟩ (.slice none 0 0) = wf at *
 refine bodyPost_ret (by simp [results,Tryz.results26,go_sem,t0_,t1_,t2_]; try rfl) rfl ?_
 exact ⟨_,_,_,_,_,_,_,rfl,hR.trans (cc_.below hR.size (fun k hk => by omega))⟩
set_option maxRecDepth 100000 in
set_option maxHeartbeats 16000000 in
theorem n4_mSO (s:ByteArray) (i:Nat) (w:World) (hs:s.size ≤ 65536) (hi:i < s.size) (h91:byA s i = 91) (h1:i + 1 < s.size) (hm:byA s (i + 1) = 45) (n:Nat) (hn:enR dgtN s (i + 1 + 1) = ((i + 1 + 1) + n)) (ha:((i + 1 + 1) + n) < s.size) (hb:byA s ((i + 1 + 1) + n) = 47) (k:Nat) (hk:enR dgtN s (((i + 1 + 1) + n) + 1) = ((i + 1 + 1) + n) + 1 + k) (hz:(((i + 1 + 1) + n) + 1 + k) < s.size) (hc:byA s (((i + 1 + 1) + n) + 1 + k) = 93) (he:erD s (i + 1 + 1) ((i + 1 + 1) + n) = 0) (hf:erD s (((i + 1 + 1) + n) + 1) (((i + 1 + 1) + n) + 1 + k) = 0) (hv:zsD s (((i + 1 + 1) + n) + 1) (((i + 1 + 1) + n) + 1 + k) ≠ []) :
  Calls Tryz.prog 26 #[.string s,.int .i64 (i:Nat)] w fun e w' => NuA w w' ((((i + 1 + 1) + n) + 1 + k) + 1 - i) e:=by
 have R1:=enR_run dgtN s (i:=(i + 1 + 1)) (by omega)
 rw [hn] at R1
 have hnt:=R1.top
 obtain ⟨wo,hwo⟩:∃ z,w.alloc (.cells #[.bool false,.slice none 0 0,.slice none 0 0] 39) = z:=⟨_,rfl⟩
 have hbo:Below w.heap.size w wo:=by rw [← hwo]; exact bAl
 have hO:=Out.made w
 rw [hwo] at hO
 have HO:=Hj (And.intro hO hbo)
 have HX:=Hj (Below.refl wo.heap.size wo)
 clear hO hbo
 have K1:=w4dfrom_any s (i + 1 + 1) wo hs (by omega)
 rw [hn,show ((i + 1 + 1) + n) - (i + 1 + 1) = n by omega] at K1
 have H1:=Hj K1
 have KP1:=Hj (fun (W:World) => wparse4 hs R1 W)
 have KF:=Hj (fun (W:World) => rfrom_any 1 W (by decide))
 have e1:=byA_get s i hi
 have t91:(((s[i]'hi).toNat:Int) == 91) = true:=by simp; omega
 have t91':(((s[i]'hi).toNat:Int) != 91) = false:=by simp; omega
 have ti:(i:Int) < (s.size:Int):=by omega
 have t1:(i:Int) + 1 < (s.size:Int):=by omega
 have e2:=byA_get s (i + 1) h1
 have t45:(((s[i + 1]'h1).toNat:Int) == 45) = true:=by simp; omega
 have R2:=enR_run dgtN s (i:=((i + 1 + 1) + n) + 1) (by omega)
 rw [hk] at R2
 have hkt:=R2.top
 have K2:=Hj (fun (W:World) => w4dfrom_any s (((i + 1 + 1) + n) + 1) W hs (by omega))
 have EK:=Hj (show enR dgtN s (((i + 1 + 1) + n) + 1) - (((i + 1 + 1) + n) + 1) = k by rw [hk]; omega)
 have KP2:=Hj (fun (W:World) => wparse4 hs R2 W)
 have e3:=byA_get s ((i + 1 + 1) + n) ha
 have t47:(((s[((i + 1 + 1) + n)]'ha).toNat:Int) == 47) = true:=by simp; omega
 have ta:((((i + 1 + 1) + n):Nat):Int) < (s.size:Int):=by omega
 have e4:=byA_get s (((i + 1 + 1) + n) + 1 + k) hz
 have t93:(((s[(((i + 1 + 1) + n) + 1 + k)]'hz).toNat:Int) == 93) = true:=by simp; omega
 have t93':(((s[(((i + 1 + 1) + n) + 1 + k)]'hz).toNat:Int) != 93) = false:=by simp; omega
 have ta1:(i:Int) + 1 + 1 + (n:Int) ≤ (s.size:Int):=by omega
 have ta2:(i:Int) + 1 + 1 + (n:Int) < (s.size:Int):=by omega
 have ta3:(i:Int) + 1 + 1 + (n:Int) + 1 + (k:Int) ≤ (s.size:Int):=by omega
 have tz:¬ (s.size:Int) ≤ (i:Int) + 1 + 1 + (n:Int) + 1 + (k:Int):=by omega
 obtain ⟨er1,her1⟩:∃ q,erD s (i + 1 + 1) ((i + 1 + 1) + n) = q:=⟨_,rfl⟩
 rw [her1] at KP1
 have te1:((er1:Int) != 0) = false:=by rw [← her1,he]; rfl
 have te1':((er1:Int) == 0) = true:=by rw [← her1,he]; rfl
 obtain ⟨er2,her2⟩:∃ q,erD s (((i + 1 + 1) + n) + 1) (((i + 1 + 1) + n) + 1 + k) = q:=⟨_,rfl⟩
 rw [her2] at KP2
 have te2:((er2:Int) != 0) = false:=by rw [← her2,hf]; rfl
 have te2':((er2:Int) == 0) = true:=by rw [← her2,hf]; rfl
 have HV:=Hj hv
 clear K1 hn e1 her1 R1 e2 hm e3 R2 hk hb her2 e4 hc he hf hv
 go_enter Tryz.func26,Tryz.ntmps26
 go_wp2_with fail
 refine (Uh H1).mono ?_
 rintro _ _ ⟨rfl,hw⟩
 obtain rfl:=hw.symm
 clear hw H1
 go_wp2_with fail
 refine (Uh KP1 _).mono ?_
 rintro _ w2 ⟨a2,n2,c2,xs,rfl,s2,ox,hx2,b2⟩
 have HS2:=Hj (And.intro s2 ox)
 have HB2:=Hj b2
 clear s2 ox b2 hx2
 go_wp2_with fail
 refine (Uh KF _).mono ?_
 rintro _ w3 ⟨a3,n3,ys,rfl,s3,hr3,na3,b3⟩
 obtain ⟨oy,tn3⟩:=from1 s3 hr3
 have HS3:=Hj (And.intro ((Uh HS2).1.below b3) (And.intro (Uh HS2).2 (And.intro s3 oy)))
 have HB3:=Hj ((Uh HB2).trans (b3.mono (Uh HB2).size))
 clear s3 oy b3 HS2 HB2 hr3 na3
 go_wp2_with fail
 refine (Uh K2 _).mono ?_
 rintro _ _ ⟨rfl,hw⟩
 obtain rfl:=hw.symm
 clear hw K2
 rw [Uh EK]
 go_wp2_with fail
 refine (Uh KP2 _).mono ?_
 rintro _ w4 ⟨a4,n4,c4,zs,rfl,s4,oz,hx4,b4⟩
 have tn4:((n4:Int) == 0) = false:=by
  have h1:=s4.len
  have h2:=Uh HV
  rw [← hx4] at h2
  have h3:=List.length_pos_iff.2 h2; simp; omega
 have HS4:=Hj (And.intro ((Uh HS3).1.below b4) (And.intro (Uh HS3).2.1 (And.intro s4 oz)))
 have HB4:=Hj ((Uh HB3).trans (b4.mono (Uh HB3).size))
 clear s4 oz b4 HS3 HB3 hx4
 have HL:=Hj (wlowest4_any true a2 a4 n2 c2 n4 c4 xs zs w4 (Uh HS4).1 (Uh HS4).2.2.1 (Uh HS4).2.1 (Uh HS4).2.2.2)
 clear HS4
 go_wp2_with fail
 refine (Uh HL).mono ?_
 rintro _ w8 ⟨rg,aN,mN,cN,aD,mD,cD,rfl,b8⟩
 have HB8:=Hj ((Uh HB4).trans (b8.mono (Uh HB4).size))
 have hO8:=(Uh HO).1.keep (Uh HB8)
 obtain ⟨j0,u0⟩:=hO8.cells 0 (by decide)
 obtain ⟨j1,u1⟩:=hO8.cells 1 (by decide)
 obtain ⟨j2,u2⟩:=hO8.cells 2 (by decide)
 have v0:=hO8.fz 0 (by decide)
 have v1:=hO8.fz 1 (by decide)
 have v2:=hO8.fz 2 (by decide)
 have HR:=Hj (And.intro (three_set w8 w.heap.size (.bool rg) (.slice aN mN cN) (.slice aD mD cD) hO8.cells) ((Uh HO).2.trans ((Uh HB8).mono (Uh HO).2.size)))
 clear hO8 b8
 go_wp2_with fail
 obtain ⟨⟨t0_,t1_,t2_,cc_⟩,hR⟩:=Uh HR
 generalize ((w8.setCell ⟨w.heap.size,0,none⟩ (.bool rg)).setCell ⟨w.heap.size,1,none⟩ (.slice aN mN cN)).setCell ⟨w.heap.size,2,none⟩ (.slice aD mD cD) = wf at *
 have hans:(i:Int) + 1 + 1 + (n:Int) + 1 + (k:Int) + 1 - (i:Int) = (((((i + 1 + 1) + n) + 1 + k) + 1 - i:Nat):Int):=by omega
 refine bodyPost_ret (by simp [results,Tryz.results26,go_sem,t0_,t1_,t2_,hans]; try rfl) rfl ?_
 exact ⟨_,_,_,_,_,_,_,rfl,hR.trans (cc_.below hR.size (fun k hk => by omega))⟩
end Go.Proofs.YtjoaijbhpgekoaaGreatDoor
