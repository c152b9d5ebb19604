/- Ftn -/
import Derived.Test.YtjoaijbhpgekoaaGreatDoorFtm
namespace Go.Proofs.YtjoaijbhpgekoaaGreatDoor
open Go.RowKit Go.Deep
set_option linter.unusedVariables false
def NuA (w w':World) (n:Nat) (e:Ending):Prop:=∃ g aN mN cN aD mD cD,e = .returned (.tuple #[.int .i64 (n:Nat),.agg #[.bool g,.slice aN mN cN,.slice aD mD cD]]) ∧ Below w.heap.size w w'
theorem PaIs.ok {s:ByteArray} {b:Int} {zs:List Nat} {p er:Int} (h:PaIs s b zs p er):Ok zs:=by
 cases h with
 | long => exact Ok.nil
 | base => exact Ok.nil
 | none => exact Ok.nil
 | digit => exact Ok.nil
 | read h1 h2 h3 h4 h5 =>
  rename_i hr
  unfold fitL at hr
  split at hr
  ·injection hr with e1 e2
   rw [← e1]
   exact Ok.nil
  ·injection hr with e1 e2
   rw [← e1]
   exact limbs_ok _
theorem wparse_ok (D:ByteArray) (w:World):Calls Tryz.prog 33 #[.string D,.int .i64 10] w fun e w' => ∃ a n c zs p er,e = .returned (.tuple #[.slice a n c,.int .i64 p,.int .i64 er]) ∧ Sl w' a n c zs ∧ Ok zs ∧ Below w.heap.size w w':=by
 refine (rparse_any D 10 w).mono ?_
 rintro e w' ⟨a,n,c,zs,p,er,rfl,h1,h2,h3⟩
 exact ⟨a,n,c,zs,p,er,rfl,h1,h3.ok,h2⟩
set_option maxRecDepth 100000 in
set_option maxHeartbeats 16000000 in
theorem n4_El (s:ByteArray) (i:Nat) (w:World) (hs:s.size ≤ 65536) (hi:i < s.size) (h91:byA s i ≠ 91) (n:Nat) (hn:enR dgtN s i = i + n) (hp:s.size ≤ i + n) (hl:n ≤ 1000) :
  Calls Tryz.prog 26 #[.string s,.int .i64 (i:Nat)] w fun e w' => NuA w w' (n) e:=by
 have hnt:=(enR_run dgtN s (i:=i) (by omega)).top
 rw [hn] at hnt
 obtain ⟨wo,hwo⟩:∃ z,w.alloc (.cells #[.bool false,.slice none 0 0,.slice none 0 0] 39) = z:=⟨_,rfl⟩
 have hbo:Below w.heap.size w wo:=by rw [← hwo]; exact bAl
 have hO:=Out.made w
 rw [hwo] at hO
 have HO:=Hj (And.intro hO hbo)
 have HX:=Hj (Below.refl wo.heap.size wo)
 clear hO hbo
 have K1:=w4dfrom_any s i wo hs (by omega)
 rw [hn,show i + n - i = n by omega] at K1
 have H1:=Hj K1
 have HPa:=Hj (fun (D:ByteArray) (W:World) => wparse_ok D W)
 have e1:=byA_get s i hi
 have t91:(((s[i]'hi).toNat:Int) == 91) = false:=by simp; omega
 have t91':(((s[i]'hi).toNat:Int) != 91) = true:=by simp; omega
 have ti:(i:Int) < (s.size:Int):=by omega
 have tn:(i:Int) + (n:Int) ≤ (s.size:Int):=by omega
 have tp:¬ (i:Int) + (n:Int) < (s.size:Int):=by omega
 have tl:¬ (1000:Int) < (n:Int):=by omega
 clear K1 hn e1
 go_enter Tryz.func26,Tryz.ntmps26
 go_wp2_with fail
 refine (Uh H1).mono ?_
 rintro _ _ ⟨rfl,hw⟩
 obtain rfl:=hw.symm
 clear hw H1
 go_wp2_with fail
 refine (Uh HPa _ _).mono ?_
 rintro _ w2 ⟨a2,n2,c2,xs,p2,er2,rfl,s2,ox,b2⟩
 have HS2:=Hj (And.intro s2 ox)
 have HB2:=Hj b2
 clear s2 ox b2
 go_wp2_with fail
 refine (Uh HPa _ _).mono ?_
 rintro _ w3 ⟨a3,n3,c3,ys,p3,er3,rfl,s3,oy,b3⟩
 have HL:=Hj (wlowest4_any false a2 a3 n2 c2 n3 c3 xs ys w3 ((Uh HS2).1.below b3) s3 (Uh HS2).2 oy)
 have HB3:=Hj ((Uh HB2).trans (b3.mono (Uh HB2).size))
 clear s3 oy b3 HS2 HB2
 go_wp2_with fail
 refine (Uh HL).mono ?_
 rintro _ w8 ⟨rg,aN,mN,cN,aD,mD,cD,rfl,b8⟩
 have HB8:=Hj ((Uh HB3).trans (b8.mono (Uh HB3).size))
 have hO8:=(Uh HO).1.keep (Uh HB8)
 obtain ⟨j0,u0⟩:=hO8.cells 0 (by decide)
 obtain ⟨j1,u1⟩:=hO8.cells 1 (by decide)
 obtain ⟨j2,u2⟩:=hO8.cells 2 (by decide)
 have v0:=hO8.fz 0 (by decide)
 have v1:=hO8.fz 1 (by decide)
 have v2:=hO8.fz 2 (by decide)
 have HR:=Hj (And.intro (three_set w8 w.heap.size (.bool rg) (.slice aN mN cN) (.slice aD mD cD) hO8.cells) ((Uh HO).2.trans ((Uh HB8).mono (Uh HO).2.size)))
 clear hO8 b8
 go_wp2_with fail
 obtain ⟨⟨t0_,t1_,t2_,cc_⟩,hR⟩:=Uh HR
 generalize ((w8.setCell ⟨w.heap.size,0,none⟩ (.bool rg)).setCell ⟨w.heap.size,1,none⟩ (.slice aN mN cN)).setCell ⟨w.heap.size,2,none⟩ (.slice aD mD cD) = wf at *
 refine bodyPost_ret (by simp [results,Tryz.results26,go_sem,t0_,t1_,t2_]; try rfl) rfl ?_
 exact ⟨_,_,_,_,_,_,_,rfl,hR.trans (cc_.below hR.size (fun k hk => by omega))⟩
set_option maxRecDepth 100000 in
set_option maxHeartbeats 16000000 in
theorem n4_Eg (s:ByteArray) (i:Nat) (w:World) (hs:s.size ≤ 65536) (hi:i < s.size) (h91:byA s i ≠ 91) (n:Nat) (hn:enR dgtN s i = i + n) (hp:s.size ≤ i + n) (hl:1000 < n) :
  Calls Tryz.prog 26 #[.string s,.int .i64 (i:Nat)] w fun e w' => NuA w w' (0) e:=by
 have hnt:=(enR_run dgtN s (i:=i) (by omega)).top
 rw [hn] at hnt
 obtain ⟨wo,hwo⟩:∃ z,w.alloc (.cells #[.bool false,.slice none 0 0,.slice none 0 0] 39) = z:=⟨_,rfl⟩
 have hbo:Below w.heap.size w wo:=by rw [← hwo]; exact bAl
 have hO:=Out.made w
 rw [hwo] at hO
 have HO:=Hj (And.intro hO hbo)
 have HX:=Hj (Below.refl wo.heap.size wo)
 clear hO hbo
 have K1:=w4dfrom_any s i wo hs (by omega)
 rw [hn,show i + n - i = n by omega] at K1
 have H1:=Hj K1
 have HPa:=Hj (fun (D:ByteArray) (W:World) => wparse_ok D W)
 have e1:=byA_get s i hi
 have t91:(((s[i]'hi).toNat:Int) == 91) = false:=by simp; omega
 have t91':(((s[i]'hi).toNat:Int) != 91) = true:=by simp; omega
 have ti:(i:Int) < (s.size:Int):=by omega
 have tn:(i:Int) + (n:Int) ≤ (s.size:Int):=by omega
 have tp:¬ (i:Int) + (n:Int) < (s.size:Int):=by omega
 have tl:(1000:Int) < (n:Int):=by omega
 clear K1 hn e1
 go_enter Tryz.func26,Tryz.ntmps26
 go_wp2_with fail
 refine (Uh H1).mono ?_
 rintro _ _ ⟨rfl,hw⟩
 obtain rfl:=hw.symm
 clear hw H1
 have hO8:=(Uh HO).1.keep (Uh HX)
 obtain ⟨j0,u0⟩:=hO8.cells 0 (by decide)
 obtain ⟨j1,u1⟩:=hO8.cells 1 (by decide)
 obtain ⟨j2,u2⟩:=hO8.cells 2 (by decide)
 have v0:=hO8.fz 0 (by decide)
 have v1:=hO8.fz 1 (by decide)
 have v2:=hO8.fz 2 (by decide)
 have HR:=Hj (And.intro (three_set wo w.heap.size (.bool false) (.slice none 0 0) (.slice none 0 0) hO8.cells) ((Uh HO).2.trans ((Uh HX).mono (Uh HO).2.size)))
 clear hO8
 go_wp2_with fail
 obtain ⟨⟨t0_,t1_,t2_,cc_⟩,hR⟩:=Uh HR
 generalize ((wo.setCell ⟨w.heap.size,0,none⟩ (.bool false)).setCell ⟨w.heap.size,1,none⟩ (.slice none 0 0)).setCell ⟨w.heap.size,2,none⟩ (.slice none 0 0) = wf at *
 refine bodyPost_ret (by simp [results,Tryz.results26,go_sem,t0_,t1_,t2_]; try rfl) rfl ?_
 exact ⟨_,_,_,_,_,_,_,rfl,hR.trans (cc_.below hR.size (fun k hk => by omega))⟩
set_option maxRecDepth 100000 in
set_option maxHeartbeats 16000000 in
theorem n4_Bl (s:ByteArray) (i:Nat) (w:World) (hs:s.size ≤ 65536) (hi:i < s.size) (h91:byA s i ≠ 91) (n:Nat) (hn:enR dgtN s i = i + n) (hp:i + n < s.size) (hc:byA s (i + n) ≠ 46) (hl:n ≤ 1000) :
  Calls Tryz.prog 26 #[.string s,.int .i64 (i:Nat)] w fun e w' => NuA w w' (n) e:=by
 have hnt:=(enR_run dgtN s (i:=i) (by omega)).top
 rw [hn] at hnt
 obtain ⟨wo,hwo⟩:∃ z,w.alloc (.cells #[.bool false,.slice none 0 0,.slice none 0 0] 39) = z:=⟨_,rfl⟩
 have hbo:Below w.heap.size w wo:=by rw [← hwo]; exact bAl
 have hO:=Out.made w
 rw [hwo] at hO
 have HO:=Hj (And.intro hO hbo)
 have HX:=Hj (Below.refl wo.heap.size wo)
 clear hO hbo
 have K1:=w4dfrom_any s i wo hs (by omega)
 rw [hn,show i + n - i = n by omega] at K1
 have H1:=Hj K1
 have HPa:=Hj (fun (D:ByteArray) (W:World) => wparse_ok D W)
 have e1:=byA_get s i hi
 have t91:(((s[i]'hi).toNat:Int) == 91) = false:=by simp; omega
 have t91':(((s[i]'hi).toNat:Int) != 91) = true:=by simp; omega
 have ti:(i:Int) < (s.size:Int):=by omega
 have tn:(i:Int) + (n:Int) ≤ (s.size:Int):=by omega
 have tp:(i:Int) + (n:Int) < (s.size:Int):=by omega
 have e2:=byA_get s (i + n) hp
 have t46:(((s[i + n]'hp).toNat:Int) == 46) = false:=by simp; omega
 have tl:¬ (1000:Int) < (n:Int):=by omega
 clear K1 hn e1 e2 hc
 go_enter Tryz.func26,Tryz.ntmps26
 go_wp2_with fail
 refine (Uh H1).mono ?_
 rintro _ _ ⟨rfl,hw⟩
 obtain rfl:=hw.symm
 clear hw H1
 go_wp2_with fail
 refine (Uh HPa _ _).mono ?_
 rintro _ w2 ⟨a2,n2,c2,xs,p2,er2,rfl,s2,ox,b2⟩
 have HS2:=Hj (And.intro s2 ox)
 have HB2:=Hj b2
 clear s2 ox b2
 go_wp2_with fail
 refine (Uh HPa _ _).mono ?_
 rintro _ w3 ⟨a3,n3,c3,ys,p3,er3,rfl,s3,oy,b3⟩
 have HL:=Hj (wlowest4_any false a2 a3 n2 c2 n3 c3 xs ys w3 ((Uh HS2).1.below b3) s3 (Uh HS2).2 oy)
 have HB3:=Hj ((Uh HB2).trans (b3.mono (Uh HB2).size))
 clear s3 oy b3 HS2 HB2
 go_wp2_with fail
 refine (Uh HL).mono ?_
 rintro _ w8 ⟨rg,aN,mN,cN,aD,mD,cD,rfl,b8⟩
 have HB8:=Hj ((Uh HB3).trans (b8.mono (Uh HB3).size))
 have hO8:=(Uh HO).1.keep (Uh HB8)
 obtain ⟨j0,u0⟩:=hO8.cells 0 (by decide)
 obtain ⟨j1,u1⟩:=hO8.cells 1 (by decide)
 obtain ⟨j2,u2⟩:=hO8.cells 2 (by decide)
 have v0:=hO8.fz 0 (by decide)
 have v1:=hO8.fz 1 (by decide)
 have v2:=hO8.fz 2 (by decide)
 have HR:=Hj (And.intro (three_set w8 w.heap.size (.bool rg) (.slice aN mN cN) (.slice aD mD cD) hO8.cells) ((Uh HO).2.trans ((Uh HB8).mono (Uh HO).2.size)))
 clear hO8 b8
 go_wp2_with fail
 obtain ⟨⟨t0_,t1_,t2_,cc_⟩,hR⟩:=Uh HR
 generalize ((w8.setCell ⟨w.heap.size,0,none⟩ (.bool rg)).setCell ⟨w.heap.size,1,none⟩ (.slice aN mN cN)).setCell ⟨w.heap.size,2,none⟩ (.slice aD mD cD) = wf at *
 refine bodyPost_ret (by simp [results,Tryz.results26,go_sem,t0_,t1_,t2_]; try rfl) rfl ?_
 exact ⟨_,_,_,_,_,_,_,rfl,hR.trans (cc_.below hR.size (fun k hk => by omega))⟩
set_option maxRecDepth 100000 in
set_option maxHeartbeats 16000000 in
theorem n4_Bg (s:ByteArray) (i:Nat) (w:World) (hs:s.size ≤ 65536) (hi:i < s.size) (h91:byA s i ≠ 91) (n:Nat) (hn:enR dgtN s i = i + n) (hp:i + n < s.size) (hc:byA s (i + n) ≠ 46) (hl:1000 < n) :
  Calls Tryz.prog 26 #[.string s,.int .i64 (i:Nat)] w fun e w' => NuA w w' (0) e:=by
 have hnt:=(enR_run dgtN s (i:=i) (by omega)).top
 rw [hn] at hnt
 obtain ⟨wo,hwo⟩:∃ z,w.alloc (.cells #[.bool false,.slice none 0 0,.slice none 0 0] 39) = z:=⟨_,rfl⟩
 have hbo:Below w.heap.size w wo:=by rw [← hwo]; exact bAl
 have hO:=Out.made w
 rw [hwo] at hO
 have HO:=Hj (And.intro hO hbo)
 have HX:=Hj (Below.refl wo.heap.size wo)
 clear hO hbo
 have K1:=w4dfrom_any s i wo hs (by omega)
 rw [hn,show i + n - i = n by omega] at K1
 have H1:=Hj K1
 have HPa:=Hj (fun (D:ByteArray) (W:World) => wparse_ok D W)
 have e1:=byA_get s i hi
 have t91:(((s[i]'hi).toNat:Int) == 91) = false:=by simp; omega
 have t91':(((s[i]'hi).toNat:Int) != 91) = true:=by simp; omega
 have ti:(i:Int) < (s.size:Int):=by omega
 have tn:(i:Int) + (n:Int) ≤ (s.size:Int):=by omega
 have tp:(i:Int) + (n:Int) < (s.size:Int):=by omega
 have e2:=byA_get s (i + n) hp
 have t46:(((s[i + n]'hp).toNat:Int) == 46) = false:=by simp; omega
 have tl:(1000:Int) < (n:Int):=by omega
 clear K1 hn e1 e2 hc
 go_enter Tryz.func26,Tryz.ntmps26
 go_wp2_with fail
 refine (Uh H1).mono ?_
 rintro _ _ ⟨rfl,hw⟩
 obtain rfl:=hw.symm
 clear hw H1
 have hO8:=(Uh HO).1.keep (Uh HX)
 obtain ⟨j0,u0⟩:=hO8.cells 0 (by decide)
 obtain ⟨j1,u1⟩:=hO8.cells 1 (by decide)
 obtain ⟨j2,u2⟩:=hO8.cells 2 (by decide)
 have v0:=hO8.fz 0 (by decide)
 have v1:=hO8.fz 1 (by decide)
 have v2:=hO8.fz 2 (by decide)
 have HR:=Hj (And.intro (three_set wo w.heap.size (.bool false) (.slice none 0 0) (.slice none 0 0) hO8.cells) ((Uh HO).2.trans ((Uh HX).mono (Uh HO).2.size)))
 clear hO8
 go_wp2_with fail
 obtain ⟨⟨t0_,t1_,t2_,cc_⟩,hR⟩:=Uh HR
 generalize ((wo.setCell ⟨w.heap.size,0,none⟩ (.bool false)).setCell ⟨w.heap.size,1,none⟩ (.slice none 0 0)).setCell ⟨w.heap.size,2,none⟩ (.slice none 0 0) = wf at *
 refine bodyPost_ret (by simp [results,Tryz.results26,go_sem,t0_,t1_,t2_]; try rfl) rfl ?_
 exact ⟨_,_,_,_,_,_,_,rfl,hR.trans (cc_.below hR.size (fun k hk => by omega))⟩
set_option maxRecDepth 100000 in
set_option maxHeartbeats 16000000 in
theorem n4_Y0 (s:ByteArray) (i:Nat) (w:World) (hs:s.size ≤ 65536) (hi:i < s.size) (h91:byA s i ≠ 91) (n:Nat) (hn:enR dgtN s i = i + n) (hp:i + n < s.size) (hc:byA s (i + n) = 46) (k:Nat) (hk:enR dgtN s (i + n + 1) = i + n + 1 + k) (hz:k = 0) :
  Calls Tryz.prog 26 #[.string s,.int .i64 (i:Nat)] w fun e w' => NuA w w' (0) e:=by
 have hnt:=(enR_run dgtN s (i:=i) (by omega)).top
 rw [hn] at hnt
 obtain ⟨wo,hwo⟩:∃ z,w.alloc (.cells #[.bool false,.slice none 0 0,.slice none 0 0] 39) = z:=⟨_,rfl⟩
 have hbo:Below w.heap.size w wo:=by rw [← hwo]; exact bAl
 have hO:=Out.made w
 rw [hwo] at hO
 have HO:=Hj (And.intro hO hbo)
 have HX:=Hj (Below.refl wo.heap.size wo)
 clear hO hbo
 have K1:=w4dfrom_any s i wo hs (by omega)
 rw [hn,show i + n - i = n by omega] at K1
 have H1:=Hj K1
 have HPa:=Hj (fun (D:ByteArray) (W:World) => wparse_ok D W)
 have e1:=byA_get s i hi
 have t91:(((s[i]'hi).toNat:Int) == 91) = false:=by simp; omega
 have t91':(((s[i]'hi).toNat:Int) != 91) = true:=by simp; omega
 have ti:(i:Int) < (s.size:Int):=by omega
 have tn:(i:Int) + (n:Int) ≤ (s.size:Int):=by omega
 have tp:(i:Int) + (n:Int) < (s.size:Int):=by omega
 have e2:=byA_get s (i + n) hp
 have t46:(((s[i + n]'hp).toNat:Int) == 46) = true:=by simp; omega
 have hkt:=(enR_run dgtN s (i:=i + n + 1) (by omega)).top
 rw [hk] at hkt
 have K2:=w4dfrom_any s (i + n + 1) wo hs (by omega)
 rw [hk,show i + n + 1 + k - (i + n + 1) = k by omega] at K2
 have H2:=Hj K2
 have tk1:(i:Int) + (n:Int) + 1 ≤ (s.size:Int):=by omega
 have tk2:(i:Int) + (n:Int) + 1 + (k:Int) ≤ (s.size:Int):=by omega
 clear K2 hk
 have tz:((k:Int) == 0) = true:=by simp; omega
 clear K1 hn e1 e2 hc hz
 go_enter Tryz.func26,Tryz.ntmps26
 go_wp2_with fail
 refine (Uh H1).mono ?_
 rintro _ _ ⟨rfl,hw⟩
 obtain rfl:=hw.symm
 clear hw H1
 go_wp2_with fail
 refine (Uh H2).mono ?_
 rintro _ _ ⟨rfl,hw⟩
 obtain rfl:=hw.symm
 clear hw H2
 have hO8:=(Uh HO).1.keep (Uh HX)
 obtain ⟨j0,u0⟩:=hO8.cells 0 (by decide)
 obtain ⟨j1,u1⟩:=hO8.cells 1 (by decide)
 obtain ⟨j2,u2⟩:=hO8.cells 2 (by decide)
 have v0:=hO8.fz 0 (by decide)
 have v1:=hO8.fz 1 (by decide)
 have v2:=hO8.fz 2 (by decide)
 have HR:=Hj (And.intro (three_set wo w.heap.size (.bool false) (.slice none 0 0) (.slice none 0 0) hO8.cells) ((Uh HO).2.trans ((Uh HX).mono (Uh HO).2.size)))
 clear hO8
 go_wp2_with fail
 obtain ⟨⟨t0_,t1_,t2_,cc_⟩,hR⟩:=Uh HR
 generalize ((wo.setCell ⟨w.heap.size,0,none⟩ (.bool false)).setCell ⟨w.heap.size,1,none⟩ (.slice none 0 0)).setCell ⟨w.heap.size,2,none⟩ (.slice none 0 0) = wf at *
 refine bodyPost_ret (by simp [results,Tryz.results26,go_sem,t0_,t1_,t2_]; try rfl) rfl ?_
 exact ⟨_,_,_,_,_,_,_,rfl,hR.trans (cc_.below hR.size (fun k hk => by omega))⟩
set_option maxRecDepth 100000 in
set_option maxHeartbeats 16000000 in
theorem n4_Yl (s:ByteArray) (i:Nat) (w:World) (hs:s.size ≤ 65536) (hi:i < s.size) (h91:byA s i ≠ 91) (n:Nat) (hn:enR dgtN s i = i + n) (hp:i + n < s.size) (hc:byA s (i + n) = 46) (k:Nat) (hk:enR dgtN s (i + n + 1) = i + n + 1 + k) (hl:n + 1 + k ≤ 1000) (hz:0 < k) :
  Calls Tryz.prog 26 #[.string s,.int .i64 (i:Nat)] w fun e w' => NuA w w' (n + 1 + k) e:=by
 have hnt:=(enR_run dgtN s (i:=i) (by omega)).top
 rw [hn] at hnt
 obtain ⟨wo,hwo⟩:∃ z,w.alloc (.cells #[.bool false,.slice none 0 0,.slice none 0 0] 39) = z:=⟨_,rfl⟩
 have hbo:Below w.heap.size w wo:=by rw [← hwo]; exact bAl
 have hO:=Out.made w
 rw [hwo] at hO
 have HO:=Hj (And.intro hO hbo)
 have HX:=Hj (Below.refl wo.heap.size wo)
 clear hO hbo
 have K1:=w4dfrom_any s i wo hs (by omega)
 rw [hn,show i + n - i = n by omega] at K1
 have H1:=Hj K1
 have HPa:=Hj (fun (D:ByteArray) (W:World) => wparse_ok D W)
 have e1:=byA_get s i hi
 have t91:(((s[i]'hi).toNat:Int) == 91) = false:=by simp; omega
 have t91':(((s[i]'hi).toNat:Int) != 91) = true:=by simp; omega
 have ti:(i:Int) < (s.size:Int):=by omega
 have tn:(i:Int) + (n:Int) ≤ (s.size:Int):=by omega
 have tp:(i:Int) + (n:Int) < (s.size:Int):=by omega
 have e2:=byA_get s (i + n) hp
 have t46:(((s[i + n]'hp).toNat:Int) == 46) = true:=by simp; omega
 have hkt:=(enR_run dgtN s (i:=i + n + 1) (by omega)).top
 rw [hk] at hkt
 have K2:=w4dfrom_any s (i + n + 1) wo hs (by omega)
 rw [hk,show i + n + 1 + k - (i + n + 1) = k by omega] at K2
 have H2:=Hj K2
 have tk1:(i:Int) + (n:Int) + 1 ≤ (s.size:Int):=by omega
 have tk2:(i:Int) + (n:Int) + 1 + (k:Int) ≤ (s.size:Int):=by omega
 clear K2 hk
 have tz:((k:Int) == 0) = false:=by simp; omega
 have tl:¬ (1000:Int) < (n:Int) + 1 + (k:Int):=by omega
 clear K1 hn e1 e2 hc hz
 go_enter Tryz.func26,Tryz.ntmps26
 go_wp2_with fail
 refine (Uh H1).mono ?_
 rintro _ _ ⟨rfl,hw⟩
 obtain rfl:=hw.symm
 clear hw H1
 go_wp2_with fail
 refine (Uh H2).mono ?_
 rintro _ _ ⟨rfl,hw⟩
 obtain rfl:=hw.symm
 clear hw H2
 go_wp2_with fail
 go_loopw [8,10] (fun dv iv wr => ∃ (q:Nat) (D:ByteArray),q ≤ k ∧ D.size = 1 + q ∧ dv = .string D ∧ iv = .int .i64 (q:Nat) ∧ Hid (wr = wo)) (fun _ iv _ => k - (intOf iv).toNat)
 case atStart => exact ⟨0,_,Nat.zero_le _,rfl,rfl,rfl,rfl⟩
 case round =>
  obtain ⟨q,D,hq,hD,rfl,rfl,HW⟩:=hrel
  obtain rfl:=(Uh HW).symm
  clear HW
  by_cases hlt:q < k
  ·have hlt':(q:Int) < (k:Int):=by omega
   have HD:=Hj hD
   clear hD
   go_wp2_with fail
   ·exfalso
    have:=Uh HD
    omega
   exact ⟨⟨q + 1,_,by omega,by have:=Uh HD; rw [ByteArray.size_append,this]; show 1 + q + 1 = _; omega,rfl,by (first | rfl | go_num),Hj trivial⟩,by simp [intOf]; omega⟩
  ·have hlt':¬ (q:Int) < (k:Int):=by omega
   have hqk:q = k:=by omega
   subst hqk
   clear hD
   go_wp2_with fail
   refine (Uh HPa _ _).mono ?_
   rintro _ w2 ⟨a2,n2,c2,xs,p2,er2,rfl,s2,ox,b2⟩
   have HS2:=Hj (And.intro s2 ox)
   have HB2:=Hj b2
   clear s2 ox b2
   go_wp2_with fail
   refine (Uh HPa _ _).mono ?_
   rintro _ w3 ⟨a3,n3,c3,ys,p3,er3,rfl,s3,oy,b3⟩
   have HL:=Hj (wlowest4_any false a2 a3 n2 c2 n3 c3 xs ys w3 ((Uh HS2).1.below b3) s3 (Uh HS2).2 oy)
   have HB3:=Hj ((Uh HB2).trans (b3.mono (Uh HB2).size))
   clear s3 oy b3 HS2 HB2
   go_wp2_with fail
   refine (Uh HL).mono ?_
   rintro _ w8 ⟨rg,aN,mN,cN,aD,mD,cD,rfl,b8⟩
   have HB8:=Hj ((Uh HB3).trans (b8.mono (Uh HB3).size))
   have hO8:=(Uh HO).1.keep (Uh HB8)
   obtain ⟨j0,u0⟩:=hO8.cells 0 (by decide)
   obtain ⟨j1,u1⟩:=hO8.cells 1 (by decide)
   obtain ⟨j2,u2⟩:=hO8.cells 2 (by decide)
   have v0:=hO8.fz 0 (by decide)
   have v1:=hO8.fz 1 (by decide)
   have v2:=hO8.fz 2 (by decide)
   have HR:=Hj (And.intro (three_set w8 w.heap.size (.bool rg) (.slice aN mN cN) (.slice aD mD cD) hO8.cells) ((Uh HO).2.trans ((Uh HB8).mono (Uh HO).2.size)))
   clear hO8 b8
   go_wp2_with fail
   obtain ⟨⟨t0_,t1_,t2_,cc_⟩,hR⟩:=Uh HR
   generalize ((w8.setCell ⟨w.heap.size,0,none⟩ (.bool rg)).setCell ⟨w.heap.size,1,none⟩ (.slice aN mN cN)).setCell ⟨w.heap.size,2,none⟩ (.slice aD mD cD) = wf at *
   refine bodyPost_ret (by simp [results,Tryz.results26,go_sem,t0_,t1_,t2_]; try rfl) rfl ?_
   exact ⟨_,_,_,_,_,_,_,rfl,hR.trans (cc_.below hR.size (fun k hk => by omega))⟩
set_option maxRecDepth 100000 in
set_option maxHeartbeats 16000000 in
theorem n4_Yg (s:ByteArray) (i:Nat) (w:World) (hs:s.size ≤ 65536) (hi:i < s.size) (h91:byA s i ≠ 91) (n:Nat) (hn:enR dgtN s i = i + n) (hp:i + n < s.size) (hc:byA s (i + n) = 46) (k:Nat) (hk:enR dgtN s (i + n + 1) = i + n + 1 + k) (hl:1000 < n + 1 + k) (hz:0 < k) :
  Calls Tryz.prog 26 #[.string s,.int .i64 (i:Nat)] w fun e w' => NuA w w' (0) e:=by
 have hnt:=(enR_run dgtN s (i:=i) (by omega)).top
 rw [hn] at hnt
 obtain ⟨wo,hwo⟩:∃ z,w.alloc (.cells #[.bool false,.slice none 0 0,.slice none 0 0] 39) = z:=⟨_,rfl⟩
 have hbo:Below w.heap.size w wo:=by rw [← hwo]; exact bAl
 have hO:=Out.made w
 rw [hwo] at hO
 have HO:=Hj (And.intro hO hbo)
 have HX:=Hj (Below.refl wo.heap.size wo)
 clear hO hbo
 have K1:=w4dfrom_any s i wo hs (by omega)
 rw [hn,show i + n - i = n by omega] at K1
 have H1:=Hj K1
 have HPa:=Hj (fun (D:ByteArray) (W:World) => wparse_ok D W)
 have e1:=byA_get s i hi
 have t91:(((s[i]'hi).toNat:Int) == 91) = false:=by simp; omega
 have t91':(((s[i]'hi).toNat:Int) != 91) = true:=by simp; omega
 have ti:(i:Int) < (s.size:Int):=by omega
 have tn:(i:Int) + (n:Int) ≤ (s.size:Int):=by omega
 have tp:(i:Int) + (n:Int) < (s.size:Int):=by omega
 have e2:=byA_get s (i + n) hp
 have t46:(((s[i + n]'hp).toNat:Int) == 46) = true:=by simp; omega
 have hkt:=(enR_run dgtN s (i:=i + n + 1) (by omega)).top
 rw [hk] at hkt
 have K2:=w4dfrom_any s (i + n + 1) wo hs (by omega)
 rw [hk,show i + n + 1 + k - (i + n + 1) = k by omega] at K2
 have H2:=Hj K2
 have tk1:(i:Int) + (n:Int) + 1 ≤ (s.size:Int):=by omega
 have tk2:(i:Int) + (n:Int) + 1 + (k:Int) ≤ (s.size:Int):=by omega
 clear K2 hk
 have tz:((k:Int) == 0) = false:=by simp; omega
 have tl:(1000:Int) < (n:Int) + 1 + (k:Int):=by omega
 clear K1 hn e1 e2 hc hz
 go_enter Tryz.func26,Tryz.ntmps26
 go_wp2_with fail
 refine (Uh H1).mono ?_
 rintro _ _ ⟨rfl,hw⟩
 obtain rfl:=hw.symm
 clear hw H1
 go_wp2_with fail
 refine (Uh H2).mono ?_
 rintro _ _ ⟨rfl,hw⟩
 obtain rfl:=hw.symm
 clear hw H2
 go_wp2_with fail
 go_loopw [8,10] (fun dv iv wr => ∃ (q:Nat) (D:ByteArray),q ≤ k ∧ D.size = 1 + q ∧ dv = .string D ∧ iv = .int .i64 (q:Nat) ∧ Hid (wr = wo)) (fun _ iv _ => k - (intOf iv).toNat)
 case atStart => exact ⟨0,_,Nat.zero_le _,rfl,rfl,rfl,rfl⟩
 case round =>
  obtain ⟨q,D,hq,hD,rfl,rfl,HW⟩:=hrel
  obtain rfl:=(Uh HW).symm
  clear HW
  by_cases hlt:q < k
  ·have hlt':(q:Int) < (k:Int):=by omega
   have HD:=Hj hD
   clear hD
   go_wp2_with fail
   ·exfalso
    have:=Uh HD
    omega
   exact ⟨⟨q + 1,_,by omega,by have:=Uh HD; rw [ByteArray.size_append,this]; show 1 + q + 1 = _; omega,rfl,by (first | rfl | go_num),Hj trivial⟩,by simp [intOf]; omega⟩
  ·have hlt':¬ (q:Int) < (k:Int):=by omega
   have hqk:q = k:=by omega
   subst hqk
   clear hD
   have hO8:=(Uh HO).1.keep (Uh HX)
   obtain ⟨j0,u0⟩:=hO8.cells 0 (by decide)
   obtain ⟨j1,u1⟩:=hO8.cells 1 (by decide)
   obtain ⟨j2,u2⟩:=hO8.cells 2 (by decide)
   have v0:=hO8.fz 0 (by decide)
   have v1:=hO8.fz 1 (by decide)
   have v2:=hO8.fz 2 (by decide)
   have HR:=Hj (And.intro (three_set wo w.heap.size (.bool false) (.slice none 0 0) (.slice none 0 0) hO8.cells) ((Uh HO).2.trans ((Uh HX).mono (Uh HO).2.size)))
   clear hO8
   go_wp2_with fail
   obtain ⟨⟨t0_,t1_,t2_,cc_⟩,hR⟩:=Uh HR
   generalize ((wo.setCell ⟨w.heap.size,0,none⟩ (.bool false)).setCell ⟨w.heap.size,1,none⟩ (.slice none 0 0)).setCell ⟨w.heap.size,2,none⟩ (.slice none 0 0) = wf at *
   refine bodyPost_ret (by simp [results,Tryz.results26,go_sem,t0_,t1_,t2_]; try rfl) rfl ?_
   exact ⟨_,_,_,_,_,_,_,rfl,hR.trans (cc_.below hR.size (fun k hk => by omega))⟩
theorem n4_plain (s:ByteArray) (i:Nat) (w:World) (hs:s.size ≤ 65536) (hi:i < s.size) (h91:byA s i ≠ 91):Calls Tryz.prog 26 #[.string s,.int .i64 (i:Nat)] w fun e w' => NuA w w' (nuE s i - i) e:=by
 unfold nuE
 rw [if_neg h91]
 unfold plE
 dsimp only
 obtain ⟨n,hn⟩:∃ n,enR dgtN s i = i + n:=⟨enR dgtN s i - i,by have:=(enR_run dgtN s (i:=i) (by omega)).le; omega⟩
 have hnt:=(enR_run dgtN s (i:=i) (by omega)).top
 rw [hn] at hnt
 rw [hn]
 by_cases c:i + n < s.size ∧ byA s (i + n) = 46
 ·rw [if_pos c]
  obtain ⟨k,hk⟩:∃ k,enR dgtN s (i + n + 1) = i + n + 1 + k:=⟨enR dgtN s (i + n + 1) - (i + n + 1),by have:=(enR_run dgtN s (i:=i + n + 1) (by omega)).le; omega⟩
  rw [hk]
  by_cases hz:k = 0
  ·rw [if_pos (show i + n + 1 + k = i + n + 1 by omega),if_neg (by omega),Nat.zero_sub]
   exact n4_Y0 s i w hs hi h91 n hn c.1 c.2 k hk hz
  ·rw [if_neg (show ¬ i + n + 1 + k = i + n + 1 by omega)]
   by_cases hl:n + 1 + k ≤ 1000
   ·rw [if_neg (by omega),show i + n + 1 + k - i = n + 1 + k by omega]
    exact n4_Yl s i w hs hi h91 n hn c.1 c.2 k hk hl (by omega)
   ·rw [if_pos (by omega),Nat.zero_sub]
    exact n4_Yg s i w hs hi h91 n hn c.1 c.2 k hk (by omega) (by omega)
 ·rw [if_neg c]
  by_cases hl:n ≤ 1000
  ·rw [if_neg (by omega),show i + n - i = n by omega]
   by_cases d:i + n < s.size
   ·exact n4_Bl s i w hs hi h91 n hn d (fun e => c ⟨d,e⟩) hl
   ·exact n4_El s i w hs hi h91 n hn (by omega) hl
  ·rw [if_pos (by omega),Nat.zero_sub]
   by_cases d:i + n < s.size
   ·exact n4_Bg s i w hs hi h91 n hn d (fun e => c ⟨d,e⟩) (by omega)
   ·exact n4_Eg s i w hs hi h91 n hn (by omega) (by omega)
end Go.Proofs.YtjoaijbhpgekoaaGreatDoor
