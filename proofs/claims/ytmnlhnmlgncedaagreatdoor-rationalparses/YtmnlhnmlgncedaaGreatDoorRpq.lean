/- Rpk -/
import Derived.Test.YtmnlhnmlgncedaaGreatDoorRpb
import Derived.Test.YtmnlhnmlgncedaaGreatDoorRpd
import Derived.Test.YtmnlhnmlgncedaaGreatDoorRu3
import Derived.Test.YtmnlhnmlgncedaaGreatDoorRd2
namespace Go.Proofs.YtmnlhnmlgncedaaGreatDoor
open Go.RowKit Go.Deep
set_option linter.unusedVariables false
theorem ext_size {s:ByteArray} {a:Nat} (h:a ≤ s.size):(s.extract a s.size).size = s.size - a:=by rw [ByteArray.size_extract]; omega
theorem sg_ext {s:ByteArray} {a:Nat} (h:a ≤ s.size):∀ k,k ≤ s.size - a → sgB s a k = pwB (s.extract a s.size) k
 | 0,_ => rfl
 | k + 1,hk => by
  show 10 * sgB s a k + (byA s (a + k) - 48) = 10 * pwB (s.extract a s.size) k + (byA (s.extract a s.size) k - 48)
  rw [sg_ext h k (by omega),byA_ext (by omega) (Nat.le_refl _)]
theorem pwB_zero {s:ByteArray}:∀ {z:Nat},(∀ q,q < z → byA s q = 48) → pwB s z = 0
 | 0,_ => rfl
 | z + 1,h => by
  show 10 * pwB s z + (byA s z - 48) = 0
  rw [pwB_zero (fun q hq => h q (by omega)),h z (by omega)]
theorem pwB_bare {s:ByteArray} {z:Nat} (h:Zr s z):pwB (s.extract z s.size) (s.extract z s.size).size = pwB s s.size:=by
 have h1:=pwB_sg s z (s.size - z)
 have hle:=h.le
 rw [show z + (s.size - z) = s.size by omega,pwB_zero h.all,Nat.zero_mul,Nat.zero_add] at h1
 rw [ext_size hle,← sg_ext hle _ (Nat.le_refl _),h1]
def WfF (g:Bool) (N D:Nat):(Bool × List Nat × List Nat) × Int:=if 2048 < (limbs N).length ∨ 2048 < (limbs D).length then ((false,[],[]),2) else lowF g N D
structure Bare (s:ByteArray):Prop where
 top:s.size ≤ 65536
 dig:∀ q,q < s.size → 48 ≤ byA s q ∧ byA s q ≤ 57
 first:0 < s.size → byA s 0 ≠ 48
theorem bare_of {s:ByteArray} {z:Nat} (hs:s.size ≤ 65536) (hd:∀ q,q < s.size → 48 ≤ byA s q ∧ byA s q ≤ 57) (h:Zr s z):Bare (s.extract z s.size):=by
 have hle:=h.le
 have he:=ext_size hle
 refine ⟨by omega,fun q hq => ?_,fun h0 => ?_⟩
 ·rw [byA_ext (by omega) (Nat.le_refl _)]
  exact hd _ (by omega)
 ·rw [byA_ext (by omega) (Nat.le_refl _)]
  exact h.stop (by omega)
theorem dig_len {s:ByteArray} (h:Bare s):(limbs (pwB s s.size)).length ≤ s.size + 1:=ten_len (Nat.le_of_lt (pwB_lt fun q hq => (h.dig q hq).2))
set_option maxRecDepth 100000 in
set_option maxHeartbeats 32000000 in
theorem wwritten_la (g:Bool) (A0 B0 A B:ByteArray) (up dn:Nat) (w:World) (hup:up ≤ 100000) (hdn:dn ≤ 100000) (hA:Bare A) (hBr:Bare B)
  (kA:∀ W,Calls Tryz.prog 59 #[.string A0] W fun e w' => e = .returned (.string A) ∧ w' = W) (kB:∀ W,Calls Tryz.prog 59 #[.string B0] W fun e w' => e = .returned (.string B) ∧ w' = W)
  (hl:decide (0 < A.size ∧ 19729 < A.size + up) = true) :
  Calls Tryz.prog 60 #[.bool g,.string A0,.int .i64 (up:Nat),.string B0,.int .i64 (dn:Nat)] w fun e w' => PsPost w w' false [] [] 0 2 e:=by
 obtain ⟨wo,hwo⟩:∃ z,w.alloc (.cells #[.bool false,.slice none 0 0,.slice none 0 0] 25) = z:=⟨_,rfl⟩
 have hbo:Below w.heap.size w wo:=by rw [← hwo]; exact bAl
 have hO:=Out.made w
 rw [hwo] at hO
 have HO:=Hj (And.intro hO hbo)
 have HX:=Hj (Below.refl wo.heap.size wo)
 have KA:=Hj kA
 have KB:=Hj kB
 have LA:=Hj (fun (W:World) => wlong_any A up _ W hA.top (by omega) hl)
 clear hO hbo kA kB hl hA hBr
 go_enter Tryz.func60,Tryz.ntmps60
 go_wp2_with fail
 refine (Uh KA _).mono ?_
 rintro _ _ ⟨rfl,hw⟩
 obtain rfl:=hw.symm
 clear hw KA
 go_wp2_with fail
 refine (Uh KB _).mono ?_
 rintro _ _ ⟨rfl,hw⟩
 obtain rfl:=hw.symm
 clear hw KB
 go_wp2_with fail
 refine (Uh LA _).mono ?_
 rintro _ _ ⟨rfl,hw⟩
 obtain rfl:=hw.symm
 clear hw LA
 have hO8:=(Uh HO).1.keep (Uh HX)
 obtain ⟨j0,u0⟩:=hO8.cells 0 (by decide)
 obtain ⟨j1,u1⟩:=hO8.cells 1 (by decide)
 obtain ⟨j2,u2⟩:=hO8.cells 2 (by decide)
 have v0:=hO8.fz 0 (by decide)
 have v1:=hO8.fz 1 (by decide)
 have v2:=hO8.fz 2 (by decide)
 have HR:=Hj (And.intro (three_set wo w.heap.size (.bool false) (.slice none 0 0) (.slice none 0 0) hO8.cells) (ret_Q (w:=w) (gy:=false) hO8 (sl_nil _) (sl_nil _) (fun p hp => by cases hp) (fun p hp => by cases hp) ((Uh HO).2.trans ((Uh HX).mono (Uh HO).2.size)) (Nat.le_refl _)))
 clear hO8
 go_wp2_with fail
 obtain ⟨⟨t0_,t1_,t2_,cc_⟩,hR⟩:=Uh HR
 generalize ((wo.setCell ⟨w.heap.size,0,none⟩ (.bool false)).setCell ⟨w.heap.size,1,none⟩ (.slice none 0 0)).setCell ⟨w.heap.size,2,none⟩ (.slice none 0 0) = wf at *
 refine bodyPost_ret (by simp [results,Tryz.results60,go_sem,t0_,t1_,t2_]; try rfl) rfl ?_
 exact ⟨_,rfl,hR⟩
set_option maxRecDepth 100000 in
set_option maxHeartbeats 32000000 in
theorem wwritten_lb (g:Bool) (A0 B0 A B:ByteArray) (up dn:Nat) (w:World) (hup:up ≤ 100000) (hdn:dn ≤ 100000) (hA:Bare A) (hBr:Bare B)
  (kA:∀ W,Calls Tryz.prog 59 #[.string A0] W fun e w' => e = .returned (.string A) ∧ w' = W) (kB:∀ W,Calls Tryz.prog 59 #[.string B0] W fun e w' => e = .returned (.string B) ∧ w' = W)
  (hl:decide (0 < A.size ∧ 19729 < A.size + up) = false) (hm:decide (0 < B.size ∧ 19729 < B.size + dn) = true) :
  Calls Tryz.prog 60 #[.bool g,.string A0,.int .i64 (up:Nat),.string B0,.int .i64 (dn:Nat)] w fun e w' => PsPost w w' false [] [] 0 2 e:=by
 obtain ⟨wo,hwo⟩:∃ z,w.alloc (.cells #[.bool false,.slice none 0 0,.slice none 0 0] 25) = z:=⟨_,rfl⟩
 have hbo:Below w.heap.size w wo:=by rw [← hwo]; exact bAl
 have hO:=Out.made w
 rw [hwo] at hO
 have HO:=Hj (And.intro hO hbo)
 have HX:=Hj (Below.refl wo.heap.size wo)
 have KA:=Hj kA
 have KB:=Hj kB
 have LA:=Hj (fun (W:World) => wlong_any A up _ W hA.top (by omega) hl)
 have LB:=Hj (fun (W:World) => wlong_any B dn _ W hBr.top (by omega) hm)
 clear hO hbo kA kB hl hA hBr hm
 go_enter Tryz.func60,Tryz.ntmps60
 go_wp2_with fail
 refine (Uh KA _).mono ?_
 rintro _ _ ⟨rfl,hw⟩
 obtain rfl:=hw.symm
 clear hw KA
 go_wp2_with fail
 refine (Uh KB _).mono ?_
 rintro _ _ ⟨rfl,hw⟩
 obtain rfl:=hw.symm
 clear hw KB
 go_wp2_with fail
 refine (Uh LA _).mono ?_
 rintro _ _ ⟨rfl,hw⟩
 obtain rfl:=hw.symm
 clear hw LA
 go_wp2_with fail
 refine (Uh LB _).mono ?_
 rintro _ _ ⟨rfl,hw⟩
 obtain rfl:=hw.symm
 clear hw LB
 have hO8:=(Uh HO).1.keep (Uh HX)
 obtain ⟨j0,u0⟩:=hO8.cells 0 (by decide)
 obtain ⟨j1,u1⟩:=hO8.cells 1 (by decide)
 obtain ⟨j2,u2⟩:=hO8.cells 2 (by decide)
 have v0:=hO8.fz 0 (by decide)
 have v1:=hO8.fz 1 (by decide)
 have v2:=hO8.fz 2 (by decide)
 have HR:=Hj (And.intro (three_set wo w.heap.size (.bool false) (.slice none 0 0) (.slice none 0 0) hO8.cells) (ret_Q (w:=w) (gy:=false) hO8 (sl_nil _) (sl_nil _) (fun p hp => by cases hp) (fun p hp => by cases hp) ((Uh HO).2.trans ((Uh HX).mono (Uh HO).2.size)) (Nat.le_refl _)))
 clear hO8
 go_wp2_with fail
 obtain ⟨⟨t0_,t1_,t2_,cc_⟩,hR⟩:=Uh HR
 generalize ((wo.setCell ⟨w.heap.size,0,none⟩ (.bool false)).setCell ⟨w.heap.size,1,none⟩ (.slice none 0 0)).setCell ⟨w.heap.size,2,none⟩ (.slice none 0 0) = wf at *
 refine bodyPost_ret (by simp [results,Tryz.results60,go_sem,t0_,t1_,t2_]; try rfl) rfl ?_
 exact ⟨_,rfl,hR⟩
set_option maxRecDepth 100000 in
set_option maxHeartbeats 32000000 in
theorem wwritten_bx (g:Bool) (A0 B0 A B:ByteArray) (up dn:Nat) (w:World) (hup:up ≤ 100000) (hdn:dn ≤ 100000) (hA:Bare A) (hBr:Bare B)
  (kA:∀ W,Calls Tryz.prog 59 #[.string A0] W fun e w' => e = .returned (.string A) ∧ w' = W) (kB:∀ W,Calls Tryz.prog 59 #[.string B0] W fun e w' => e = .returned (.string B) ∧ w' = W)
  (hl:decide (0 < A.size ∧ 19729 < A.size + up) = false) (hm:decide (0 < B.size ∧ 19729 < B.size + dn) = false) (hx:2048 < (limbs (pwB A A.size * 10 ^ up)).length) :
  Calls Tryz.prog 60 #[.bool g,.string A0,.int .i64 (up:Nat),.string B0,.int .i64 (dn:Nat)] w fun e w' => PsPost w w' false [] [] 0 2 e:=by
 obtain ⟨wo,hwo⟩:∃ z,w.alloc (.cells #[.bool false,.slice none 0 0,.slice none 0 0] 25) = z:=⟨_,rfl⟩
 have hbo:Below w.heap.size w wo:=by rw [← hwo]; exact bAl
 have hO:=Out.made w
 rw [hwo] at hO
 have HO:=Hj (And.intro hO hbo)
 have HX:=Hj (Below.refl wo.heap.size wo)
 have KA:=Hj kA
 have KB:=Hj kB
 have LA:=Hj (fun (W:World) => wlong_any A up _ W hA.top (by omega) hl)
 have LB:=Hj (fun (W:World) => wlong_any B dn _ W hBr.top (by omega) hm)
 have FA:=Hj (fun (W:World) => wfromDigits_any A W hA.top hA.dig)
 have FB:=Hj (fun (W:World) => wfromDigits_any B W hBr.top hBr.dig)
 have TA:=Hj (fun (W:World) => wten_any up hup W)
 have TB:=Hj (fun (W:World) => wten_any dn hdn W)
 have lA:=dig_len hA
 have lB:=dig_len hBr
 have lTA:=ten_len (n:=up) (Nat.le_refl (10 ^ up))
 have lTB:=ten_len (n:=dn) (Nat.le_refl (10 ^ dn))
 have HAs:=Hj (And.intro hA.top hBr.top)
 clear hO hbo kA kB hl hA hBr hm
 go_enter Tryz.func60,Tryz.ntmps60
 go_wp2_with fail
 refine (Uh KA _).mono ?_
 rintro _ _ ⟨rfl,hw⟩
 obtain rfl:=hw.symm
 clear hw KA
 go_wp2_with fail
 refine (Uh KB _).mono ?_
 rintro _ _ ⟨rfl,hw⟩
 obtain rfl:=hw.symm
 clear hw KB
 go_wp2_with fail
 refine (Uh LA _).mono ?_
 rintro _ _ ⟨rfl,hw⟩
 obtain rfl:=hw.symm
 clear hw LA
 go_wp2_with fail
 refine (Uh LB _).mono ?_
 rintro _ _ ⟨rfl,hw⟩
 obtain rfl:=hw.symm
 clear hw LB
 go_wp2_with fail
 refine (Uh FA _).mono ?_
 rintro _ wp1 ⟨ap1,mp1,cp1,rfl,sp1,np1,zp1,bp1⟩
 have Hp1:=Hj (And.intro sp1 bp1)
 clear sp1 np1 zp1 bp1 FA
 go_wp2_with fail
 refine (Uh TA _).mono ?_
 rintro _ wp2 ⟨ap2,mp2,cp2,rfl,sp2,np2,zp2,bp2⟩
 have Kp:=wmulw_any ap1 ap2 mp1 cp1 mp2 cp2 (limbs (pwB A A.size)) (limbs (10 ^ up)) wp2 ((Uh Hp1).1.below bp2) sp2 (limbs_ok _) (limbs_ok _) (by have h1:=(Uh Hp1).1.len; have h2:=sp2.len; have h3:=Uh HAs; omega)
 rw [limbs_v,limbs_v] at Kp
 have Hp2:=Hj ((Uh Hp1).2.trans (bp2.mono (Uh Hp1).2.size))
 have HKp:=Hj Kp
 clear sp2 np2 zp2 bp2 Kp TA Hp1
 go_wp2_with fail
 refine (Uh HKp).mono ?_
 rintro _ wp3 ⟨ap3,mp3,cp3,rfl,sp3,np3,zp3,bp3⟩
 have lp3:=sp3.len
 have Hp3:=Hj (And.intro sp3 (And.intro zp3 ((Uh Hp2).trans (bp3.mono (Uh Hp2).size))))
 clear sp3 np3 zp3 bp3 HKp Hp2
 go_wp2_with fail
 refine (Uh FB _).mono ?_
 rintro _ wq1 ⟨aq1,mq1,cq1,rfl,sq1,nq1,zq1,bq1⟩
 have Hq1:=Hj (And.intro sq1 bq1)
 clear sq1 nq1 zq1 bq1 FB
 go_wp2_with fail
 refine (Uh TB _).mono ?_
 rintro _ wq2 ⟨aq2,mq2,cq2,rfl,sq2,nq2,zq2,bq2⟩
 have Kq:=wmulw_any aq1 aq2 mq1 cq1 mq2 cq2 (limbs (pwB B B.size)) (limbs (10 ^ dn)) wq2 ((Uh Hq1).1.below bq2) sq2 (limbs_ok _) (limbs_ok _) (by have h1:=(Uh Hq1).1.len; have h2:=sq2.len; have h3:=Uh HAs; omega)
 rw [limbs_v,limbs_v] at Kq
 have Hq2:=Hj ((Uh Hq1).2.trans (bq2.mono (Uh Hq1).2.size))
 have HKq:=Hj Kq
 clear sq2 nq2 zq2 bq2 Kq TB Hq1
 go_wp2_with fail
 refine (Uh HKq).mono ?_
 rintro _ wq3 ⟨aq3,mq3,cq3,rfl,sq3,nq3,zq3,bq3⟩
 have lq3:=sq3.len
 have Hq3:=Hj (And.intro sq3 (And.intro zq3 ((Uh Hq2).trans (bq3.mono (Uh Hq2).size))))
 clear sq3 nq3 zq3 bq3 HKq Hq2
 clear lA lB lTA lTB
 have HXq:=Hj ((Uh Hp3).2.2.trans ((Uh Hq3).2.2.mono (Uh Hp3).2.2.size))
 have tx:(2048:Int) < (mp3:Int):=by omega
 clear hx
 have hO8:=(Uh HO).1.keep (Uh HXq)
 obtain ⟨j0,u0⟩:=hO8.cells 0 (by decide)
 obtain ⟨j1,u1⟩:=hO8.cells 1 (by decide)
 obtain ⟨j2,u2⟩:=hO8.cells 2 (by decide)
 have v0:=hO8.fz 0 (by decide)
 have v1:=hO8.fz 1 (by decide)
 have v2:=hO8.fz 2 (by decide)
 have HR:=Hj (And.intro (three_set wq3 w.heap.size (.bool false) (.slice none 0 0) (.slice none 0 0) hO8.cells) (ret_Q (w:=w) (gy:=false) hO8 (sl_nil _) (sl_nil _) (fun p hp => by cases hp) (fun p hp => by cases hp) ((Uh HO).2.trans ((Uh HXq).mono (Uh HO).2.size)) (Nat.le_refl _)))
 clear hO8
 go_wp2_with fail
 obtain ⟨⟨t0_,t1_,t2_,cc_⟩,hR⟩:=Uh HR
 generalize ((wq3.setCell ⟨w.heap.size,0,none⟩ (.bool false)).setCell ⟨w.heap.size,1,none⟩ (.slice none 0 0)).setCell ⟨w.heap.size,2,none⟩ (.slice none 0 0) = wf at *
 refine bodyPost_ret (by simp [results,Tryz.results60,go_sem,t0_,t1_,t2_]; try rfl) rfl ?_
 exact ⟨_,rfl,hR⟩
set_option maxRecDepth 100000 in
set_option maxHeartbeats 32000000 in
theorem wwritten_by (g:Bool) (A0 B0 A B:ByteArray) (up dn:Nat) (w:World) (hup:up ≤ 100000) (hdn:dn ≤ 100000) (hA:Bare A) (hBr:Bare B)
  (kA:∀ W,Calls Tryz.prog 59 #[.string A0] W fun e w' => e = .returned (.string A) ∧ w' = W) (kB:∀ W,Calls Tryz.prog 59 #[.string B0] W fun e w' => e = .returned (.string B) ∧ w' = W)
  (hl:decide (0 < A.size ∧ 19729 < A.size + up) = false) (hm:decide (0 < B.size ∧ 19729 < B.size + dn) = false) (hx:¬ 2048 < (limbs (pwB A A.size * 10 ^ up)).length) (hy:2048 < (limbs (pwB B B.size * 10 ^ dn)).length) :
  Calls Tryz.prog 60 #[.bool g,.string A0,.int .i64 (up:Nat),.string B0,.int .i64 (dn:Nat)] w fun e w' => PsPost w w' false [] [] 0 2 e:=by
 obtain ⟨wo,hwo⟩:∃ z,w.alloc (.cells #[.bool false,.slice none 0 0,.slice none 0 0] 25) = z:=⟨_,rfl⟩
 have hbo:Below w.heap.size w wo:=by rw [← hwo]; exact bAl
 have hO:=Out.made w
 rw [hwo] at hO
 have HO:=Hj (And.intro hO hbo)
 have HX:=Hj (Below.refl wo.heap.size wo)
 have KA:=Hj kA
 have KB:=Hj kB
 have LA:=Hj (fun (W:World) => wlong_any A up _ W hA.top (by omega) hl)
 have LB:=Hj (fun (W:World) => wlong_any B dn _ W hBr.top (by omega) hm)
 have FA:=Hj (fun (W:World) => wfromDigits_any A W hA.top hA.dig)
 have FB:=Hj (fun (W:World) => wfromDigits_any B W hBr.top hBr.dig)
 have TA:=Hj (fun (W:World) => wten_any up hup W)
 have TB:=Hj (fun (W:World) => wten_any dn hdn W)
 have lA:=dig_len hA
 have lB:=dig_len hBr
 have lTA:=ten_len (n:=up) (Nat.le_refl (10 ^ up))
 have lTB:=ten_len (n:=dn) (Nat.le_refl (10 ^ dn))
 have HAs:=Hj (And.intro hA.top hBr.top)
 clear hO hbo kA kB hl hA hBr hm
 go_enter Tryz.func60,Tryz.ntmps60
 go_wp2_with fail
 refine (Uh KA _).mono ?_
 rintro _ _ ⟨rfl,hw⟩
 obtain rfl:=hw.symm
 clear hw KA
 go_wp2_with fail
 refine (Uh KB _).mono ?_
 rintro _ _ ⟨rfl,hw⟩
 obtain rfl:=hw.symm
 clear hw KB
 go_wp2_with fail
 refine (Uh LA _).mono ?_
 rintro _ _ ⟨rfl,hw⟩
 obtain rfl:=hw.symm
 clear hw LA
 go_wp2_with fail
 refine (Uh LB _).mono ?_
 rintro _ _ ⟨rfl,hw⟩
 obtain rfl:=hw.symm
 clear hw LB
 go_wp2_with fail
 refine (Uh FA _).mono ?_
 rintro _ wp1 ⟨ap1,mp1,cp1,rfl,sp1,np1,zp1,bp1⟩
 have Hp1:=Hj (And.intro sp1 bp1)
 clear sp1 np1 zp1 bp1 FA
 go_wp2_with fail
 refine (Uh TA _).mono ?_
 rintro _ wp2 ⟨ap2,mp2,cp2,rfl,sp2,np2,zp2,bp2⟩
 have Kp:=wmulw_any ap1 ap2 mp1 cp1 mp2 cp2 (limbs (pwB A A.size)) (limbs (10 ^ up)) wp2 ((Uh Hp1).1.below bp2) sp2 (limbs_ok _) (limbs_ok _) (by have h1:=(Uh Hp1).1.len; have h2:=sp2.len; have h3:=Uh HAs; omega)
 rw [limbs_v,limbs_v] at Kp
 have Hp2:=Hj ((Uh Hp1).2.trans (bp2.mono (Uh Hp1).2.size))
 have HKp:=Hj Kp
 clear sp2 np2 zp2 bp2 Kp TA Hp1
 go_wp2_with fail
 refine (Uh HKp).mono ?_
 rintro _ wp3 ⟨ap3,mp3,cp3,rfl,sp3,np3,zp3,bp3⟩
 have lp3:=sp3.len
 have Hp3:=Hj (And.intro sp3 (And.intro zp3 ((Uh Hp2).trans (bp3.mono (Uh Hp2).size))))
 clear sp3 np3 zp3 bp3 HKp Hp2
 go_wp2_with fail
 refine (Uh FB _).mono ?_
 rintro _ wq1 ⟨aq1,mq1,cq1,rfl,sq1,nq1,zq1,bq1⟩
 have Hq1:=Hj (And.intro sq1 bq1)
 clear sq1 nq1 zq1 bq1 FB
 go_wp2_with fail
 refine (Uh TB _).mono ?_
 rintro _ wq2 ⟨aq2,mq2,cq2,rfl,sq2,nq2,zq2,bq2⟩
 have Kq:=wmulw_any aq1 aq2 mq1 cq1 mq2 cq2 (limbs (pwB B B.size)) (limbs (10 ^ dn)) wq2 ((Uh Hq1).1.below bq2) sq2 (limbs_ok _) (limbs_ok _) (by have h1:=(Uh Hq1).1.len; have h2:=sq2.len; have h3:=Uh HAs; omega)
 rw [limbs_v,limbs_v] at Kq
 have Hq2:=Hj ((Uh Hq1).2.trans (bq2.mono (Uh Hq1).2.size))
 have HKq:=Hj Kq
 clear sq2 nq2 zq2 bq2 Kq TB Hq1
 go_wp2_with fail
 refine (Uh HKq).mono ?_
 rintro _ wq3 ⟨aq3,mq3,cq3,rfl,sq3,nq3,zq3,bq3⟩
 have lq3:=sq3.len
 have Hq3:=Hj (And.intro sq3 (And.intro zq3 ((Uh Hq2).trans (bq3.mono (Uh Hq2).size))))
 clear sq3 nq3 zq3 bq3 HKq Hq2
 clear lA lB lTA lTB
 have HXq:=Hj ((Uh Hp3).2.2.trans ((Uh Hq3).2.2.mono (Uh Hp3).2.2.size))
 have tx:¬ (2048:Int) < (mp3:Int):=by omega
 have ty:(2048:Int) < (mq3:Int):=by omega
 clear hx hy
 have hO8:=(Uh HO).1.keep (Uh HXq)
 obtain ⟨j0,u0⟩:=hO8.cells 0 (by decide)
 obtain ⟨j1,u1⟩:=hO8.cells 1 (by decide)
 obtain ⟨j2,u2⟩:=hO8.cells 2 (by decide)
 have v0:=hO8.fz 0 (by decide)
 have v1:=hO8.fz 1 (by decide)
 have v2:=hO8.fz 2 (by decide)
 have HR:=Hj (And.intro (three_set wq3 w.heap.size (.bool false) (.slice none 0 0) (.slice none 0 0) hO8.cells) (ret_Q (w:=w) (gy:=false) hO8 (sl_nil _) (sl_nil _) (fun p hp => by cases hp) (fun p hp => by cases hp) ((Uh HO).2.trans ((Uh HXq).mono (Uh HO).2.size)) (Nat.le_refl _)))
 clear hO8
 go_wp2_with fail
 obtain ⟨⟨t0_,t1_,t2_,cc_⟩,hR⟩:=Uh HR
 generalize ((wq3.setCell ⟨w.heap.size,0,none⟩ (.bool false)).setCell ⟨w.heap.size,1,none⟩ (.slice none 0 0)).setCell ⟨w.heap.size,2,none⟩ (.slice none 0 0) = wf at *
 refine bodyPost_ret (by simp [results,Tryz.results60,go_sem,t0_,t1_,t2_]; try rfl) rfl ?_
 exact ⟨_,rfl,hR⟩
set_option maxRecDepth 100000 in
set_option maxHeartbeats 32000000 in
theorem wwritten_ok (g:Bool) (A0 B0 A B:ByteArray) (up dn:Nat) (w:World) (hup:up ≤ 100000) (hdn:dn ≤ 100000) (hA:Bare A) (hBr:Bare B)
  (kA:∀ W,Calls Tryz.prog 59 #[.string A0] W fun e w' => e = .returned (.string A) ∧ w' = W) (kB:∀ W,Calls Tryz.prog 59 #[.string B0] W fun e w' => e = .returned (.string B) ∧ w' = W)
  (hl:decide (0 < A.size ∧ 19729 < A.size + up) = false) (hm:decide (0 < B.size ∧ 19729 < B.size + dn) = false) (hx:¬ 2048 < (limbs (pwB A A.size * 10 ^ up)).length) (hy:¬ 2048 < (limbs (pwB B B.size * 10 ^ dn)).length) (hB:0 < pwB B B.size) :
  Calls Tryz.prog 60 #[.bool g,.string A0,.int .i64 (up:Nat),.string B0,.int .i64 (dn:Nat)] w fun e w' => PsPost w w' (lowF g (pwB A A.size * 10 ^ up) (pwB B B.size * 10 ^ dn)).1.1 (lowF g (pwB A A.size * 10 ^ up) (pwB B B.size * 10 ^ dn)).1.2.1 (lowF g (pwB A A.size * 10 ^ up) (pwB B B.size * 10 ^ dn)).1.2.2 0 (lowF g (pwB A A.size * 10 ^ up) (pwB B B.size * 10 ^ dn)).2 e:=by
 obtain ⟨wo,hwo⟩:∃ z,w.alloc (.cells #[.bool false,.slice none 0 0,.slice none 0 0] 25) = z:=⟨_,rfl⟩
 have hbo:Below w.heap.size w wo:=by rw [← hwo]; exact bAl
 have hO:=Out.made w
 rw [hwo] at hO
 have HO:=Hj (And.intro hO hbo)
 have HX:=Hj (Below.refl wo.heap.size wo)
 obtain ⟨lf,hlf⟩:∃ z,lowF g (pwB A A.size * 10 ^ up) (pwB B B.size * 10 ^ dn) = z:=⟨_,rfl⟩
 rw [hlf]
 have HLF:=Hj hlf
 clear hlf
 have KA:=Hj kA
 have KB:=Hj kB
 have LA:=Hj (fun (W:World) => wlong_any A up _ W hA.top (by omega) hl)
 have LB:=Hj (fun (W:World) => wlong_any B dn _ W hBr.top (by omega) hm)
 have FA:=Hj (fun (W:World) => wfromDigits_any A W hA.top hA.dig)
 have FB:=Hj (fun (W:World) => wfromDigits_any B W hBr.top hBr.dig)
 have TA:=Hj (fun (W:World) => wten_any up hup W)
 have TB:=Hj (fun (W:World) => wten_any dn hdn W)
 have lA:=dig_len hA
 have lB:=dig_len hBr
 have lTA:=ten_len (n:=up) (Nat.le_refl (10 ^ up))
 have lTB:=ten_len (n:=dn) (Nat.le_refl (10 ^ dn))
 have HAs:=Hj (And.intro hA.top hBr.top)
 clear hO hbo kA kB hl hA hBr hm
 go_enter Tryz.func60,Tryz.ntmps60
 go_wp2_with fail
 refine (Uh KA _).mono ?_
 rintro _ _ ⟨rfl,hw⟩
 obtain rfl:=hw.symm
 clear hw KA
 go_wp2_with fail
 refine (Uh KB _).mono ?_
 rintro _ _ ⟨rfl,hw⟩
 obtain rfl:=hw.symm
 clear hw KB
 go_wp2_with fail
 refine (Uh LA _).mono ?_
 rintro _ _ ⟨rfl,hw⟩
 obtain rfl:=hw.symm
 clear hw LA
 go_wp2_with fail
 refine (Uh LB _).mono ?_
 rintro _ _ ⟨rfl,hw⟩
 obtain rfl:=hw.symm
 clear hw LB
 go_wp2_with fail
 refine (Uh FA _).mono ?_
 rintro _ wp1 ⟨ap1,mp1,cp1,rfl,sp1,np1,zp1,bp1⟩
 have Hp1:=Hj (And.intro sp1 bp1)
 clear sp1 np1 zp1 bp1 FA
 go_wp2_with fail
 refine (Uh TA _).mono ?_
 rintro _ wp2 ⟨ap2,mp2,cp2,rfl,sp2,np2,zp2,bp2⟩
 have Kp:=wmulw_any ap1 ap2 mp1 cp1 mp2 cp2 (limbs (pwB A A.size)) (limbs (10 ^ up)) wp2 ((Uh Hp1).1.below bp2) sp2 (limbs_ok _) (limbs_ok _) (by have h1:=(Uh Hp1).1.len; have h2:=sp2.len; have h3:=Uh HAs; omega)
 rw [limbs_v,limbs_v] at Kp
 have Hp2:=Hj ((Uh Hp1).2.trans (bp2.mono (Uh Hp1).2.size))
 have HKp:=Hj Kp
 clear sp2 np2 zp2 bp2 Kp TA Hp1
 go_wp2_with fail
 refine (Uh HKp).mono ?_
 rintro _ wp3 ⟨ap3,mp3,cp3,rfl,sp3,np3,zp3,bp3⟩
 have lp3:=sp3.len
 have Hp3:=Hj (And.intro sp3 (And.intro zp3 ((Uh Hp2).trans (bp3.mono (Uh Hp2).size))))
 clear sp3 np3 zp3 bp3 HKp Hp2
 go_wp2_with fail
 refine (Uh FB _).mono ?_
 rintro _ wq1 ⟨aq1,mq1,cq1,rfl,sq1,nq1,zq1,bq1⟩
 have Hq1:=Hj (And.intro sq1 bq1)
 clear sq1 nq1 zq1 bq1 FB
 go_wp2_with fail
 refine (Uh TB _).mono ?_
 rintro _ wq2 ⟨aq2,mq2,cq2,rfl,sq2,nq2,zq2,bq2⟩
 have Kq:=wmulw_any aq1 aq2 mq1 cq1 mq2 cq2 (limbs (pwB B B.size)) (limbs (10 ^ dn)) wq2 ((Uh Hq1).1.below bq2) sq2 (limbs_ok _) (limbs_ok _) (by have h1:=(Uh Hq1).1.len; have h2:=sq2.len; have h3:=Uh HAs; omega)
 rw [limbs_v,limbs_v] at Kq
 have Hq2:=Hj ((Uh Hq1).2.trans (bq2.mono (Uh Hq1).2.size))
 have HKq:=Hj Kq
 clear sq2 nq2 zq2 bq2 Kq TB Hq1
 go_wp2_with fail
 refine (Uh HKq).mono ?_
 rintro _ wq3 ⟨aq3,mq3,cq3,rfl,sq3,nq3,zq3,bq3⟩
 have lq3:=sq3.len
 have Hq3:=Hj (And.intro sq3 (And.intro zq3 ((Uh Hq2).trans (bq3.mono (Uh Hq2).size))))
 clear sq3 nq3 zq3 bq3 HKq Hq2
 clear lA lB lTA lTB
 have HXq:=Hj ((Uh Hp3).2.2.trans ((Uh Hq3).2.2.mono (Uh Hp3).2.2.size))
 have tx:¬ (2048:Int) < (mp3:Int):=by omega
 have ty:¬ (2048:Int) < (mq3:Int):=by omega
 have hyn:limbs (pwB B B.size * 10 ^ dn) ≠ []:=fun e => by
  have h1:=limbs_v (pwB B B.size * 10 ^ dn)
  rw [e] at h1
  have h2:0 < pwB B B.size * 10 ^ dn:=Nat.mul_pos hB (Nat.pow_pos (by decide))
  simp [val] at h1
  omega
 have KL:=wlower_any g ap3 aq3 mp3 cp3 mq3 cq3 (limbs (pwB A A.size * 10 ^ up)) (limbs (pwB B B.size * 10 ^ dn)) wq3 ((Uh Hp3).1.below (Uh Hq3).2.2) (Uh Hq3).1 (limbs_ok _) (limbs_ok _) (limbs_norm _) (limbs_norm _) hyn (by omega) (by omega)
 rw [limbs_v,limbs_v,Uh HLF] at KL
 have HKL:=Hj KL
 clear KL hyn hx hy hB
 go_wp2_with fail
 refine (Uh HKL).mono ?_
 rintro _ w8 ⟨v8,rfl,aN,mN,cN,aD,mD,cD,rfl,sN,sD,nN,nD,b8⟩
 unfold ratV
 have hb8:=(Uh HXq).trans (b8.mono (Uh HXq).size)
 have H8:=Hj (And.intro sN (And.intro sD (And.intro nN (And.intro nD hb8))))
 have hzc:=(Uh HXq).size
 clear sN sD nN nD b8 hb8
 have bX:Below w8.heap.size w8 (w8.alloc (.cells #[.bool lf.1.1,.slice aN mN cN,.slice aD mD cD] 25)):=bAl
 have hO8:=(Uh HO).1.keep ((Uh H8).2.2.2.2.trans (bX.mono (Uh H8).2.2.2.2.size))
 obtain ⟨j0,u0⟩:=hO8.cells 0 (by decide)
 obtain ⟨j1,u1⟩:=hO8.cells 1 (by decide)
 obtain ⟨j2,u2⟩:=hO8.cells 2 (by decide)
 have v0:=hO8.fz 0 (by decide)
 have v1:=hO8.fz 1 (by decide)
 have v2:=hO8.fz 2 (by decide)
 have hzo:=(Uh HO).1.lt
 have HR:=Hj (And.intro (three_set (w8.alloc (.cells #[.bool lf.1.1,.slice aN mN cN,.slice aD mD cD] 25)) w.heap.size (.bool lf.1.1) (.slice aN mN cN) (.slice aD mD cD) hO8.cells) (ret_Q (w:=w) (gy:=lf.1.1) hO8 ((Uh H8).1.below bX) ((Uh H8).2.1.below bX) (fun p hp => by have:=(Uh H8).2.2.1 p hp; omega) (fun p hp => by have:=(Uh H8).2.2.2.1 p hp; omega) ((Uh HO).2.trans (((Uh H8).2.2.2.2.trans (bX.mono (Uh H8).2.2.2.2.size)).mono (Uh HO).2.size)) (Nat.le_refl _)))
 clear hO8 bX hzo hzc
 go_wp2_with fail
 obtain ⟨⟨t0_,t1_,t2_,cc_⟩,hR⟩:=Uh HR
 generalize (((w8.alloc (.cells #[.bool lf.1.1,.slice aN mN cN,.slice aD mD cD] 25)).setCell ⟨w.heap.size,0,none⟩ (.bool lf.1.1)).setCell ⟨w.heap.size,1,none⟩ (.slice aN mN cN)).setCell ⟨w.heap.size,2,none⟩ (.slice aD mD cD) = wf at *
 refine bodyPost_ret (by simp [results,Tryz.results60,go_sem,t0_,t1_,t2_]; try rfl) rfl ?_
 exact ⟨_,rfl,hR⟩
theorem wwritten_any (g:Bool) (A B:ByteArray) (up dn:Nat) (w:World) (hup:up ≤ 100000) (hdn:dn ≤ 100000) (sA:A.size ≤ 65536) (sB:B.size ≤ 65536) (dA:∀ q,q < A.size → 48 ≤ byA A q ∧ byA A q ≤ 57) (dB:∀ q,q < B.size → 48 ≤ byA B q ∧ byA B q ≤ 57) (hB:0 < pwB B B.size) :
  Calls Tryz.prog 60 #[.bool g,.string A,.int .i64 (up:Nat),.string B,.int .i64 (dn:Nat)] w fun e w' => PsPost w w' (WfF g (pwB A A.size * 10 ^ up) (pwB B B.size * 10 ^ dn)).1.1 (WfF g (pwB A A.size * 10 ^ up) (pwB B B.size * 10 ^ dn)).1.2.1 (WfF g (pwB A A.size * 10 ^ up) (pwB B B.size * 10 ^ dn)).1.2.2 0 (WfF g (pwB A A.size * 10 ^ up) (pwB B B.size * 10 ^ dn)).2 e:=by
 obtain ⟨za,hza⟩:=zr_any A
 obtain ⟨zb,hzb⟩:=zr_any B
 have bA:=bare_of sA dA hza
 have bB:=bare_of sB dB hzb
 have pA:=pwB_bare hza
 have pB:=pwB_bare hzb
 have kA:=fun W => wbare_any A za W sA hza
 have kB:=fun W => wbare_any B zb W sB hzb
 generalize A.extract za A.size = A1 at *
 generalize B.extract zb B.size = B1 at *
 rw [← pA,← pB]
 rw [← pB] at hB
 have big:∀ {s:ByteArray} {z:Nat},Bare s → decide (0 < s.size ∧ 19729 < s.size + z) = true → 2048 < (limbs (pwB s s.size * 10 ^ z)).length:=fun {s z} hs h => by
  have h:=of_decide_eq_true h
  exact long_big (hs.first h.1) (hs.dig 0 h.1).1 h.1 h.2
 cases hl:decide (0 < A1.size ∧ 19729 < A1.size + up) with
 | true =>
  have e:WfF g (pwB A1 A1.size * 10 ^ up) (pwB B1 B1.size * 10 ^ dn) = ((false,[],[]),2):=if_pos (.inl (big bA hl))
  rw [e]
  exact wwritten_la g A B A1 B1 up dn w hup hdn bA bB kA kB hl
 | false =>
  cases hm:decide (0 < B1.size ∧ 19729 < B1.size + dn) with
  | true =>
   have e:WfF g (pwB A1 A1.size * 10 ^ up) (pwB B1 B1.size * 10 ^ dn) = ((false,[],[]),2):=if_pos (.inr (big bB hm))
   rw [e]
   exact wwritten_lb g A B A1 B1 up dn w hup hdn bA bB kA kB hl hm
  | false =>
   by_cases hx:2048 < (limbs (pwB A1 A1.size * 10 ^ up)).length
   ·have e:WfF g (pwB A1 A1.size * 10 ^ up) (pwB B1 B1.size * 10 ^ dn) = ((false,[],[]),2):=if_pos (.inl hx)
    rw [e]
    exact wwritten_bx g A B A1 B1 up dn w hup hdn bA bB kA kB hl hm hx
   ·by_cases hy:2048 < (limbs (pwB B1 B1.size * 10 ^ dn)).length
    ·have e:WfF g (pwB A1 A1.size * 10 ^ up) (pwB B1 B1.size * 10 ^ dn) = ((false,[],[]),2):=if_pos (.inr hy)
     rw [e]
     exact wwritten_by g A B A1 B1 up dn w hup hdn bA bB kA kB hl hm hx hy
    ·have e:WfF g (pwB A1 A1.size * 10 ^ up) (pwB B1 B1.size * 10 ^ dn) = lowF g (pwB A1 A1.size * 10 ^ up) (pwB B1 B1.size * 10 ^ dn):=if_neg (by omega)
     rw [e]
     exact wwritten_ok g A B A1 B1 up dn w hup hdn bA bB kA kB hl hm hx hy hB
theorem dig_by {s:ByteArray} {i:Nat} (h1:48 ≤ byA s i) (h2:byA s i ≤ 57):dig s i = byA s i - 48:=by
 show digitN (byA s i) = _
 unfold digitN
 generalize byA s i = c at *
 repeat (first | split | omega)
theorem num_pw {s:ByteArray}:∀ {k:Nat},(∀ q,q < k → 48 ≤ byA s q ∧ byA s q ≤ 57) → numP s 10 k = pwB s k
 | 0,_ => rfl
 | k + 1,h => by
  have h1:=num_pw (s:=s) (k:=k) (fun q hq => h q (by omega))
  obtain ⟨g1,g2⟩:=h k (by omega)
  show numS s 10 0 (k + 1) = 10 * pwB s k + (byA s k - 48)
  unfold numS
  rw [show numS s 10 0 k = numP s 10 k from rfl,h1,Nat.zero_add,dig_by g1 g2]
  omega
theorem pa_of {s:ByteArray} (h0:0 < s.size) (hs:s.size ≤ 65536) (hd:∀ q,q < s.size → 48 ≤ byA s q ∧ byA s q ≤ 57):PaIs s 10 (fitL (pwB s s.size)).1 0 (fitL (pwB s s.size)).2:=by
 refine .read _ _ hs h0 ⟨by decide,by decide⟩ (fun j hj => ?_) ?_
 ·obtain ⟨g1,g2⟩:=hd j hj
  rw [dig_by g1 g2]
  show byA s j - 48 < 10
  omega
 ·rw [show ((10:Int).toNat) = 10 from rfl,num_pw hd]
theorem limbs_nz {N:Nat} (h:N ≠ 0):limbs N ≠ []:=fun e => by
 have h1:=limbs_v N
 rw [e] at h1
 simp [val] at h1
 omega
theorem small_not_big {a b:Nat} (h:a ≤ b) (k:¬ 2048 < (limbs b).length):bigN a = false:=by
 have:=limbs_len_le h
 unfold bigN
 simp
 omega
theorem low_same {g:Bool} {N D:Nat} (hD:0 < D) (hN:¬ 2048 < (limbs N).length) (hD2:¬ 2048 < (limbs D).length):lowF g N D = ((g && decide (limbs N ≠ []),limbs (N / Nat.gcd N D),limbs (D / Nat.gcd N D)),0):=by
 unfold lowF
 by_cases h:N = 0
 ·subst h
  rw [if_pos rfl,Nat.gcd_zero_left,Nat.zero_div,Nat.div_self hD]
  have e:limbs 0 = []:=rfl
  rw [e,limbs_1]
  simp
 ·rw [if_neg h,small_not_big (Nat.div_le_self _ _) hN,small_not_big (Nat.div_le_self _ _) hD2]
  have:=limbs_nz h
  simp [this]
theorem wf_same {g:Bool} {N D:Nat} (hD:0 < D) (hN:¬ 2048 < (limbs N).length) (hD2:¬ 2048 < (limbs D).length):WfF g N D = ((g && decide (limbs N ≠ []),limbs (N / Nat.gcd N D),limbs (D / Nat.gcd N D)),0):=by
 unfold WfF
 rw [if_neg (by omega),low_same hD hN hD2]
theorem wf_big {g:Bool} {N D:Nat} (h:2048 < (limbs N).length ∨ 2048 < (limbs D).length):WfF g N D = ((false,[],[]),2):=if_pos h
theorem first_is {x:ByteArray} (h:0 < x.size):((x.extract 0 1).toList == [45]) = decide (byA x 0 = 45):=by
 rw [Lib.extract_toList]
 cases x with
 | mk a =>
  cases a with
  | mk l =>
   cases l with
   | nil => simp [ByteArray.size] at h
   | cons c r =>
    have e:byA ⟨⟨c :: r⟩⟩ 0 = c.toNat:=rfl
    rw [e]
    simp
    by_cases h2:c = 45
    ·subst h2; rfl
    ·have h3:¬ c.toNat = 45:=fun k => h2 (UInt8.toNat_inj.1 k)
     simp [h2,h3]
theorem kd_two {s:ByteArray} {i:Nat} (h:i < s.size):kdA s i = 2 ↔ byA s i = 45:=by
 unfold kdA
 rw [if_neg (by omega)]
 unfold kdN
 constructor
 ·intro k
  revert k
  repeat (first | split | (intro k; omega))
 ·intro k
  rw [k]
  rfl
theorem trim_head {s:ByteArray} {g:Bool} {i e:Nat} (h:Hd s g i) (hs:s.size ≤ 65536) (hi:i < e) (he:e ≤ s.size) (W:World) :
  Calls Tryz.prog 65 #[.string (s.extract 0 e),.string ⟨#[45]⟩] W fun r w' => r = .returned (.string (s.extract i e)) ∧ w' = W:=by
 have hz:(s.extract 0 e).size = e:=by rw [ByteArray.size_extract]; omega
 have hb:byA (s.extract 0 e) 0 = byA s 0:=by rw [byA_ext (by omega) he]
 have hf:=first_is (x:=s.extract 0 e) (by omega)
 rw [hb] at hf
 cases g
 ·obtain ⟨rfl,h0⟩:=h.no rfl
  have hn:¬ byA s 0 = 45:=fun c => h0 ((kd_two (by omega)).2 c)
  exact trimPrefix_no (s.extract 0 e) W (by rw [hf]; simp [hn])
 ·obtain ⟨rfl,h0⟩:=h.yes rfl
  have hn:byA s 0 = 45:=(kd_two (by omega)).1 h0
  have K:=trimPrefix_yes (s.extract 0 e) W (by omega) (by omega) (by rw [hf]; simp [hn])
  have ee:(s.extract 0 e).extract 1 (s.extract 0 e).size = s.extract 1 e:=by
   rw [hz,ByteArray.extract_extract]
   simp
  rw [ee] at K
  exact K
theorem rparse_bad {s:ByteArray} {b:Nat} (h:TkBad s b) (hs:s.size ≤ 65536) (w:World) (hTB:TabBh w) :
  Calls Tryz.prog 8 #[.string s] w fun e w' => PsPost w w' false [] [] (b:Nat) 5 e :=
 parse_bad s b w hs hTB fun W hW => takeApart_bad s s W hs hW b h.le h.now h.ahead
theorem mayL_fit {N:Nat} (h:¬ 2048 < (limbs N).length):MayL (limbs N) = true:=MayL.mk (limbs_norm _) (by omega)
theorem fit_two {N:Nat} (h:2048 < (limbs N).length):fitL N = ([],2):=fitL_big h
theorem ps_eq {w w':World} {r:(Bool × List Nat × List Nat) × Int} {g:Bool} {x y:List Nat} {a er:Int} {e:Ending} (h:r = ((g,x,y),er)) (k:PsPost w w' g x y a er e):PsPost w w' r.1.1 r.1.2.1 r.1.2.2 a r.2 e:=by
 subst h
 exact k
theorem rparse_dn (g:Bool) (s D PL PW:ByteArray) (LT Q:Nat) (P:Int) (w:World) (hs:s.size ≤ 65536) (hT:Tab64 w) (hTB:TabBh w) (hP:-4096 ≤ P ∧ P ≤ 4096) (hQ:P - (PL.size:Int) = -(Q:Int)) (hQ0:0 < Q) (hQ1:Q ≤ 1048576)
  (hTk:∀ W,TabBh W → Calls Tryz.prog 31 #[.string s] W fun e w' => e = .returned (.tuple #[.agg #[.bool g,.string D,.int .i64 ((0:Nat):Int),.string ⟨#[]⟩,.string PL,.int .i64 (LT:Nat),.string PW],.int .i64 0,.bool true]) ∧ Below W.heap.size W w')
  (hRp:∀ W,Calls Tryz.prog 33 #[.string PW] W fun e w' => e = .returned (.tuple #[.int .i64 P,.bool true]) ∧ Below W.heap.size W w')
  (h0:0 < (D ++ PL).size) (hz:(D ++ PL).size ≤ 65536) (hd:∀ q,q < (D ++ PL).size → 48 ≤ byA (D ++ PL) q ∧ byA (D ++ PL) q ≤ 57) :
  Calls Tryz.prog 8 #[.string s] w fun e w' => PsPost w w' (WfF g (pwB (D ++ PL) (D ++ PL).size) (10 ^ Q)).1.1 (WfF g (pwB (D ++ PL) (D ++ PL).size) (10 ^ Q)).1.2.1 (WfF g (pwB (D ++ PL) (D ++ PL).size) (10 ^ Q)).1.2.2 0 (WfF g (pwB (D ++ PL) (D ++ PL).size) (10 ^ Q)).2 e:=by
 have hpa:=pa_of h0 hz hd
 obtain ⟨V,hV⟩:∃ V,pwB (D ++ PL) (D ++ PL).size = V:=⟨_,rfl⟩
 rw [hV] at hpa ⊢
 have hten:0 < 10 ^ Q:=Nat.pow_pos (by decide)
 by_cases hN:2048 < (limbs V).length
 ·rw [fit_two hN] at hpa
  rw [wf_big (.inl hN)]
  exact parse_zE g s D ⟨#[]⟩ PL PW 0 LT w hs hT hTB hTk rfl P hRp [] [] 2 (by decide) fun W => written_bad g D ⟨#[]⟩ PL PW 0 LT P _ W hP 2 hz hpa (by decide)
 ·rw [fitL_ok hN] at hpa
  have KW:=fun W => written_dn g D ⟨#[]⟩ PL PW 0 LT P (limbs V) W hP Q hpa rfl hQ hQ0 hQ1
  by_cases hD:2048 < (limbs (10 ^ Q)).length
  ·rw [fit_two hD] at KW
   rw [wf_big (.inr hD)]
   exact parse_zE g s D ⟨#[]⟩ PL PW 0 LT w hs hT hTB hTk rfl P hRp (limbs V) [] 2 (by decide) KW
  ·rw [fitL_ok hD] at KW
   have K:=parse_zF g s D ⟨#[]⟩ PL PW 0 LT w hs hT hTB hTk rfl P hRp (limbs V) (limbs (10 ^ Q)) (limbs_ok _) (limbs_ok _) (mayL_fit hN) (mayL_fit hD) (limbs_nz (by omega)) KW
   rw [limbs_v,limbs_v] at K
   exact K.mono fun e w' h => ps_eq (wf_same hten hN hD) h
theorem rparse_up (g:Bool) (s D PL PW:ByteArray) (LT Q:Nat) (P:Int) (w:World) (hs:s.size ≤ 65536) (hT:Tab64 w) (hTB:TabBh w) (hP:-4096 ≤ P ∧ P ≤ 4096) (hQ:P - (PL.size:Int) = (Q:Int)) (hQ1:Q ≤ 4096)
  (hTk:∀ W,TabBh W → Calls Tryz.prog 31 #[.string s] W fun e w' => e = .returned (.tuple #[.agg #[.bool g,.string D,.int .i64 ((0:Nat):Int),.string ⟨#[]⟩,.string PL,.int .i64 (LT:Nat),.string PW],.int .i64 0,.bool true]) ∧ Below W.heap.size W w')
  (hRp:∀ W,Calls Tryz.prog 33 #[.string PW] W fun e w' => e = .returned (.tuple #[.int .i64 P,.bool true]) ∧ Below W.heap.size W w')
  (h0:0 < (D ++ PL).size) (hz:(D ++ PL).size ≤ 65536) (hd:∀ q,q < (D ++ PL).size → 48 ≤ byA (D ++ PL) q ∧ byA (D ++ PL) q ≤ 57) :
  Calls Tryz.prog 8 #[.string s] w fun e w' => PsPost w w' (WfF g (pwB (D ++ PL) (D ++ PL).size * 10 ^ Q) 1).1.1 (WfF g (pwB (D ++ PL) (D ++ PL).size * 10 ^ Q) 1).1.2.1 (WfF g (pwB (D ++ PL) (D ++ PL).size * 10 ^ Q) 1).1.2.2 0 (WfF g (pwB (D ++ PL) (D ++ PL).size * 10 ^ Q) 1).2 e:=by
 have hpa:=pa_of h0 hz hd
 obtain ⟨V,hV⟩:∃ V,pwB (D ++ PL) (D ++ PL).size = V:=⟨_,rfl⟩
 rw [hV] at hpa ⊢
 have hten:0 < 10 ^ Q:=Nat.pow_pos (by decide)
 have hVN:V ≤ V * 10 ^ Q:=Nat.le_mul_of_pos_right _ hten
 by_cases hN:2048 < (limbs V).length
 ·rw [fit_two hN] at hpa
  rw [wf_big (.inl (Nat.lt_of_lt_of_le hN (limbs_len_le hVN)))]
  exact parse_zE g s D ⟨#[]⟩ PL PW 0 LT w hs hT hTB hTk rfl P hRp [] [] 2 (by decide) fun W => written_bad g D ⟨#[]⟩ PL PW 0 LT P _ W hP 2 hz hpa (by decide)
 ·rw [fitL_ok hN] at hpa
  have KW:=fun W => written_up g D ⟨#[]⟩ PL PW 0 LT P (limbs V) W hP Q (limbs_ok _) (mayL_fit hN) hpa rfl hQ hQ1
  rw [limbs_v] at KW
  by_cases hD:2048 < (limbs (V * 10 ^ Q)).length
  ·rw [fit_two hD] at KW
   rw [wf_big (.inl hD)]
   exact parse_zE g s D ⟨#[]⟩ PL PW 0 LT w hs hT hTB hTk rfl P hRp [] [1] 2 (by decide) KW
  ·rw [fitL_ok hD] at KW
   have K:=parse_zF g s D ⟨#[]⟩ PL PW 0 LT w hs hT hTB hTk rfl P hRp (limbs (V * 10 ^ Q)) [1] (limbs_ok _) (by rw [← limbs_1]; exact limbs_ok _) (mayL_fit hD) (by decide) (by decide) KW
   rw [limbs_v,show val [1] = 1 from by simp [val]] at K
   exact K.mono fun e w' h => ps_eq (wf_same (by decide) hD (by rw [limbs_1]; decide)) h
theorem dw_nil {p:UInt8 → Bool}:∀ {l:List UInt8},l.dropWhile p = [] ↔ ∀ c ∈ l,p c = true
 | [] => by simp
 | a :: l => by
  cases h:p a with
  | true =>
   rw [List.dropWhile_cons_of_pos h,dw_nil]
   simp [h]
  | false =>
   rw [List.dropWhile_cons_of_neg (by simp [h])]
   simp [h]
theorem dw_keeps {p:UInt8 → Bool} {c:UInt8} (hc:p c = false):∀ {l:List UInt8},c ∈ l → c ∈ l.dropWhile p
 | a :: l,h => by
  cases k:p a with
  | true =>
   rw [List.dropWhile_cons_of_pos k]
   rcases List.mem_cons.1 h with e | e
   ·rw [e,k] at hc; cases hc
   ·exact dw_keeps hc e
  | false =>
   rw [List.dropWhile_cons_of_neg (by simp [k])]
   exact h
theorem trimS_nil {l cs:List UInt8}:Lib.trimS l cs = [] ↔ ∀ c ∈ l,cs.contains c = true:=by
 unfold Lib.trimS Lib.trimLeftS Lib.trimRightS
 rw [dw_nil]
 constructor
 ·intro h c hc
  cases k:cs.contains c with
  | true => rfl
  | false =>
   have h1:=h c (List.mem_reverse.2 (dw_keeps (p:=(cs.contains ·)) k (List.mem_reverse.2 hc)))
   rw [k] at h1
   cases h1
 ·intro h c hc
  have h1:=List.mem_reverse.1 hc
  have h2:c ∈ l.reverse:=(List.dropWhile_sublist _).subset h1
  exact h c (List.mem_reverse.1 h2)
theorem pwB_nil {s:ByteArray}:∀ {k:Nat},(∀ q,q < k → 48 ≤ byA s q) → (pwB s k = 0 ↔ ∀ q,q < k → byA s q = 48)
 | 0,_ => ⟨fun _ q hq => by omega,fun _ => rfl⟩
 | k + 1,h => by
  have h1:=pwB_nil (s:=s) (k:=k) (fun q hq => h q (by omega))
  have h2:=h k (by omega)
  constructor
  ·intro e q hq
   have e':10 * pwB s k + (byA s k - 48) = 0:=e
   rcases Nat.lt_or_eq_of_le (Nat.le_of_lt_succ hq) with a | a
   ·exact h1.1 (by omega) q a
   ·rw [a]; omega
  ·intro a
   exact pwB_zero a
theorem mem_byA {s:ByteArray}:(∀ c ∈ s.data.toList,([48]:List UInt8).contains c = true) ↔ ∀ q,q < s.size → byA s q = 48:=by
 cases s with
 | mk a =>
  constructor
  ·intro h q hq
   have hq':q < a.size:=hq
   have h1:=h (a[q]'hq') (by simp)
   have h2:(a[q]'hq') = 48:=by simpa using h1
   show (a[q]!).toNat = 48
   rw [getElem!_pos a q hq',h2]
   rfl
  ·intro h c hc
   obtain ⟨q,hq,e⟩:=List.mem_iff_getElem.1 hc
   have hq':q < a.size:=by simpa using hq
   have h1:(a[q]!).toNat = 48:=h q hq'
   rw [getElem!_pos a q hq'] at h1
   have h2:c.toNat = 48:=by rw [← e]; simpa using h1
   have h3:c = 48:=UInt8.toNat_inj.1 h2
   rw [h3]
   rfl
theorem trim_zero {s:ByteArray} (hd:∀ q,q < s.size → 48 ≤ byA s q ∧ byA s q ≤ 57):(⟨(Lib.trimS s.data.toList [48]).toArray⟩:ByteArray).size = 0 ↔ pwB s s.size = 0:=by
 rw [pwB_nil (fun q hq => (hd q hq).1),← mem_byA,← trimS_nil]
 show (Lib.trimS s.data.toList [48]).toArray.size = 0 ↔ _
 rw [List.size_toArray,List.length_eq_zero_iff]
theorem rparse_sl (g:Bool) (s D U:ByteArray) (SL:Nat) (w:World) (hs:s.size ≤ 65536) (hT:Tab64 w) (hTB:TabBh w) (h0:0 < SL)
  (hTk:∀ W,TabBh W → Calls Tryz.prog 31 #[.string s] W fun e w' => e = .returned (.tuple #[.agg #[.bool g,.string D,.int .i64 (SL:Nat),.string U,.string ⟨#[]⟩,.int .i64 ((0:Nat):Int),.string ⟨#[]⟩],.int .i64 0,.bool true]) ∧ Below W.heap.size W w')
  (d0:0 < D.size) (d1:D.size ≤ 65536) (dd:∀ q,q < D.size → 48 ≤ byA D q ∧ byA D q ≤ 57) (u0:0 < U.size) (u1:U.size ≤ 65536) (du:∀ q,q < U.size → 48 ≤ byA U q ∧ byA U q ≤ 57) (hU:0 < pwB U U.size) :
  Calls Tryz.prog 8 #[.string s] w fun e w' => PsPost w w' (WfF g (pwB D D.size) (pwB U U.size)).1.1 (WfF g (pwB D D.size) (pwB U U.size)).1.2.1 (WfF g (pwB D D.size) (pwB U U.size)).1.2.2 0 (WfF g (pwB D D.size) (pwB U U.size)).2 e:=by
 have hpa:=pa_of d0 d1 dd
 have hpu:=pa_of u0 u1 du
 have hcat:D ++ (⟨#[]⟩:ByteArray) = D:=cat_nil D
 have hTz:¬ (⟨(Lib.trimS U.data.toList [48]).toArray⟩:ByteArray).size = 0:=fun k => by have:=(trim_zero du).1 k; omega
 generalize pwB D D.size = V at *
 generalize pwB U U.size = E at *
 rw [← hcat] at hpa
 by_cases hN:2048 < (limbs V).length
 ·rw [fit_two hN] at hpa
  rw [wf_big (.inl hN)]
  exact parse_fE g s D U ⟨#[]⟩ ⟨#[]⟩ SL 0 w hs hT hTB hTk h0 _ u1 rfl hTz 0 readPower_nil [] [] 2 (by decide) fun W => written_bad g D U ⟨#[]⟩ ⟨#[]⟩ SL 0 0 _ W (by omega) 2 (by rw [hcat]; exact d1) hpa (by decide)
 ·rw [fitL_ok hN] at hpa
  have KW:=fun W => written_sl g D U ⟨#[]⟩ ⟨#[]⟩ SL 0 0 (limbs V) W (by omega) _ _ hpa h0 hpu
  by_cases hD:2048 < (limbs E).length
  ·rw [fit_two hD] at KW
   rw [wf_big (.inr hD)]
   exact parse_fE g s D U ⟨#[]⟩ ⟨#[]⟩ SL 0 w hs hT hTB hTk h0 _ u1 rfl hTz 0 readPower_nil (limbs V) [] 2 (by decide) KW
  ·rw [fitL_ok hD] at KW
   have K:=parse_fF g s D U ⟨#[]⟩ ⟨#[]⟩ SL 0 w hs hT hTB hTk h0 _ u1 rfl hTz 0 readPower_nil (limbs V) (limbs E) (limbs_ok _) (limbs_ok _) (mayL_fit hN) (mayL_fit hD) (limbs_nz (by omega)) KW
   rw [limbs_v,limbs_v] at K
   exact K.mono fun e w' h => ps_eq (wf_same hU hN hD) h
theorem rparse_sl0 (g:Bool) (s D U:ByteArray) (SL:Nat) (w:World) (hs:s.size ≤ 65536) (hT:Tab64 w) (hTB:TabBh w) (h0:0 < SL)
  (hTk:∀ W,TabBh W → Calls Tryz.prog 31 #[.string s] W fun e w' => e = .returned (.tuple #[.agg #[.bool g,.string D,.int .i64 (SL:Nat),.string U,.string ⟨#[]⟩,.int .i64 ((0:Nat):Int),.string ⟨#[]⟩],.int .i64 0,.bool true]) ∧ Below W.heap.size W w')
  (u1:U.size ≤ 65536) (du:∀ q,q < U.size → 48 ≤ byA U q ∧ byA U q ≤ 57) (hU:pwB U U.size = 0) :
  Calls Tryz.prog 8 #[.string s] w fun e w' => PsPost w w' false [] [] (SL:Nat) 3 e :=
 parse_fC g s D U ⟨#[]⟩ ⟨#[]⟩ SL 0 w hs hT hTB hTk h0 _ u1 rfl ((trim_zero du).2 hU)
end Go.Proofs.YtmnlhnmlgncedaaGreatDoor
