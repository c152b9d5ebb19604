/- Fto -/
import Derived.Test.YtjoaijbhpgekoaaGreatDoorFtn
import Derived.Test.YtjoaijbhpgekoaaGreatDoorFth
namespace Go.Proofs.YtjoaijbhpgekoaaGreatDoor
open Go.RowKit Go.Deep
set_option linter.unusedVariables false
def erD (s:ByteArray) (x y:Nat):Int:=if x < y then (fitL (pwS s x (y - x))).2 else 5
def zsD (s:ByteArray) (x y:Nat):List Nat:=if x < y then (fitL (pwS s x (y - x))).1 else []
theorem pa_ext {s:ByteArray} {x y:Nat} (hs:s.size ≤ 65536) (r:RunP dgtN s x y):PaIs (s.extract x y) 10 (zsD s x y) 0 (erD s x y):=by
 have hy:=r.top
 have hz:(s.extract x y).size = y - x:=by rw [ByteArray.size_extract]; omega
 unfold erD zsD
 by_cases c:x < y
 ·rw [if_pos c,if_pos c,pws_pw hy (y - x) (by omega),← hz]
  refine pa_of (by omega) (by omega) fun q hq => ?_
  rw [byA_ext (by omega) hy]
  have:=r.all (x + q) (by omega) (by omega)
  unfold dgtN at this
  simpa using this
 ·rw [if_neg c,if_neg c]
  exact .none (by omega) ⟨by decide,by decide⟩
theorem wparse4 {s:ByteArray} {x y:Nat} (hs:s.size ≤ 65536) (r:RunP dgtN s x y) (w:World):Calls Tryz.prog 33 #[.string (s.extract x y),.int .i64 10] w fun e w' => ∃ a n c zs,e = .returned (.tuple #[.slice a n c,.int .i64 0,.int .i64 (erD s x y)]) ∧ Sl w' a n c zs ∧ Ok zs ∧ zs = zsD s x y ∧ Below w.heap.size w w':=by
 refine (rparse_any _ 10 w).mono ?_
 rintro e w' ⟨a,n,c,zs,p,er,rfl,h1,h2,h3⟩
 obtain ⟨rfl,rfl,rfl⟩:=PaIs.uniq (pa_ext hs r) h3
 exact ⟨a,n,c,_,rfl,h1,h3.ok,rfl,h2⟩
theorem erD_fit {s:ByteArray} {x y:Nat}:erD s x y = 0 ↔ fitD s x y = true:=by
 unfold erD fitD fitL
 by_cases c:x < y
 ·rw [if_pos c,decide_eq_true c,Bool.true_and]
  by_cases d:2048 < (limbs (pwS s x (y - x))).length
  ·rw [if_pos d,decide_eq_false (by omega)]
   simp
  ·rw [if_neg d,decide_eq_true (by omega)]
   simp
 ·rw [if_neg c,decide_eq_false c]
  simp
theorem zsD_nil {s:ByteArray} {x y:Nat} (h:fitD s x y = true):zsD s x y = [] ↔ pwS s x (y - x) = 0:=by
 unfold fitD at h
 simp at h
 unfold zsD fitL
 rw [if_pos h.1,if_neg (by omega)]
 exact limbs_eq_nil
theorem from1 {m:Nat} {ys:List Nat} {w:World} {a:Option Addr} {c:Nat} (hs:Sl w a m c ys) (h:Rep 1 ys):Ok ys ∧ ((m:Int) == 0) = false:=by
 refine ⟨h.ok,?_⟩
 have:m ≠ 0:=by
  intro e
  have hl:=hs.len
  rw [e] at hl
  have h0:=List.length_eq_zero_iff.1 hl
  have hv:=h.val
  rw [h0] at hv
  exact absurd hv (by decide)
 simp; omega
set_option maxRecDepth 100000 in
set_option maxHeartbeats 16000000 in
theorem n4_qNE (s:ByteArray) (i:Nat) (w:World) (hs:s.size ≤ 65536) (hi:i < s.size) (h91:byA s i = 91) (h1:s.size = i + 1) (n:Nat) (hn:enR dgtN s (i + 1) = ((i + 1) + n)) (hz:s.size ≤ ((i + 1) + n)) :
  Calls Tryz.prog 26 #[.string s,.int .i64 (i:Nat)] w fun e w' => NuA w w' (0) e:=by
 have R1:=enR_run dgtN s (i:=(i + 1)) (by omega)
 rw [hn] at R1
 have hnt:=R1.top
 obtain ⟨wo,hwo⟩:∃ z,w.alloc (.cells #[.bool false,.slice none 0 0,.slice none 0 0] 39) = z:=⟨_,rfl⟩
 have hbo:Below w.heap.size w wo:=by rw [← hwo]; exact bAl
 have hO:=Out.made w
 rw [hwo] at hO
 have HO:=Hj (And.intro hO hbo)
 have HX:=Hj (Below.refl wo.heap.size wo)
 clear hO hbo
 have K1:=w4dfrom_any s (i + 1) wo hs (by omega)
 rw [hn,show ((i + 1) + n) - (i + 1) = n by omega] at K1
 have H1:=Hj K1
 have KP1:=Hj (fun (W:World) => wparse4 hs R1 W)
 have KF:=Hj (fun (W:World) => rfrom_any 1 W (by decide))
 have e1:=byA_get s i hi
 have t91:(((s[i]'hi).toNat:Int) == 91) = true:=by simp; omega
 have t91':(((s[i]'hi).toNat:Int) != 91) = false:=by simp; omega
 have ti:(i:Int) < (s.size:Int):=by omega
 have t1:¬ (i:Int) + 1 < (s.size:Int):=by omega
 have ta1:(i:Int) + 1 + (n:Int) ≤ (s.size:Int):=by omega
 have ta2:¬ (i:Int) + 1 + (n:Int) < (s.size:Int):=by omega
 have tz:(s.size:Int) ≤ (i:Int) + 1 + (n:Int):=by omega
 obtain ⟨er1,her1⟩:∃ q,erD s (i + 1) ((i + 1) + n) = q:=⟨_,rfl⟩
 rw [her1] at KP1
 clear K1 hn e1 her1 R1
 go_enter Tryz.func26,Tryz.ntmps26
 go_wp2_with fail
 refine (Uh H1).mono ?_
 rintro _ _ ⟨rfl,hw⟩
 obtain rfl:=hw.symm
 clear hw H1
 go_wp2_with fail
 refine (Uh KP1 _).mono ?_
 rintro _ w2 ⟨a2,n2,c2,xs,rfl,s2,ox,hx2,b2⟩
 have HS2:=Hj (And.intro s2 ox)
 have HB2:=Hj b2
 clear s2 ox b2 hx2
 go_wp2_with fail
 refine (Uh KF _).mono ?_
 rintro _ w3 ⟨a3,n3,ys,rfl,s3,hr3,na3,b3⟩
 obtain ⟨oy,tn3⟩:=from1 s3 hr3
 have HS3:=Hj (And.intro ((Uh HS2).1.below b3) (And.intro (Uh HS2).2 (And.intro s3 oy)))
 have HB3:=Hj ((Uh HB2).trans (b3.mono (Uh HB2).size))
 clear s3 oy b3 HS2 HB2 hr3 na3
 have hO8:=(Uh HO).1.keep (Uh HB3)
 obtain ⟨j0,u0⟩:=hO8.cells 0 (by decide)
 obtain ⟨j1,u1⟩:=hO8.cells 1 (by decide)
 obtain ⟨j2,u2⟩:=hO8.cells 2 (by decide)
 have v0:=hO8.fz 0 (by decide)
 have v1:=hO8.fz 1 (by decide)
 have v2:=hO8.fz 2 (by decide)
 have HR:=Hj (And.intro (three_set w3 w.heap.size (.bool false) (.slice none 0 0) (.slice none 0 0) hO8.cells) ((Uh HO).2.trans ((Uh HB3).mono (Uh HO).2.size)))
 clear hO8
 go_wp2_with fail
 obtain ⟨⟨t0_,t1_,t2_,cc_⟩,hR⟩:=Uh HR
 generalize ((w3.setCell ⟨w.heap.size,0,none⟩ (.bool false)).setCell ⟨w.heap.size,1,none⟩ (.slice none 0 0)).setCell ⟨w.heap.size,2,none⟩ (.slice none 0 0) = wf at *
 refine bodyPost_ret (by simp [results,Tryz.results26,go_sem,t0_,t1_,t2_]; try rfl) rfl ?_
 exact ⟨_,_,_,_,_,_,_,rfl,hR.trans (cc_.below hR.size (fun k hk => by omega))⟩
set_option maxRecDepth 100000 in
set_option maxHeartbeats 16000000 in
theorem n4_pNE (s:ByteArray) (i:Nat) (w:World) (hs:s.size ≤ 65536) (hi:i < s.size) (h91:byA s i = 91) (h1:i + 1 < s.size) (hm:byA s (i + 1) ≠ 45) (n:Nat) (hn:enR dgtN s (i + 1) = ((i + 1) + n)) (hz:s.size ≤ ((i + 1) + n)) :
  Calls Tryz.prog 26 #[.string s,.int .i64 (i:Nat)] w fun e w' => NuA w w' (0) e:=by
 have R1:=enR_run dgtN s (i:=(i + 1)) (by omega)
 rw [hn] at R1
 have hnt:=R1.top
 obtain ⟨wo,hwo⟩:∃ z,w.alloc (.cells #[.bool false,.slice none 0 0,.slice none 0 0] 39) = z:=⟨_,rfl⟩
 have hbo:Below w.heap.size w wo:=by rw [← hwo]; exact bAl
 have hO:=Out.made w
 rw [hwo] at hO
 have HO:=Hj (And.intro hO hbo)
 have HX:=Hj (Below.refl wo.heap.size wo)
 clear hO hbo
 have K1:=w4dfrom_any s (i + 1) wo hs (by omega)
 rw [hn,show ((i + 1) + n) - (i + 1) = n by omega] at K1
 have H1:=Hj K1
 have KP1:=Hj (fun (W:World) => wparse4 hs R1 W)
 have KF:=Hj (fun (W:World) => rfrom_any 1 W (by decide))
 have e1:=byA_get s i hi
 have t91:(((s[i]'hi).toNat:Int) == 91) = true:=by simp; omega
 have t91':(((s[i]'hi).toNat:Int) != 91) = false:=by simp; omega
 have ti:(i:Int) < (s.size:Int):=by omega
 have t1:(i:Int) + 1 < (s.size:Int):=by omega
 have e2:=byA_get s (i + 1) h1
 have t45:(((s[i + 1]'h1).toNat:Int) == 45) = false:=by simp; omega
 have ta1:(i:Int) + 1 + (n:Int) ≤ (s.size:Int):=by omega
 have ta2:¬ (i:Int) + 1 + (n:Int) < (s.size:Int):=by omega
 have tz:(s.size:Int) ≤ (i:Int) + 1 + (n:Int):=by omega
 obtain ⟨er1,her1⟩:∃ q,erD s (i + 1) ((i + 1) + n) = q:=⟨_,rfl⟩
 rw [her1] at KP1
 clear K1 hn e1 her1 R1 e2 hm
 go_enter Tryz.func26,Tryz.ntmps26
 go_wp2_with fail
 refine (Uh H1).mono ?_
 rintro _ _ ⟨rfl,hw⟩
 obtain rfl:=hw.symm
 clear hw H1
 go_wp2_with fail
 refine (Uh KP1 _).mono ?_
 rintro _ w2 ⟨a2,n2,c2,xs,rfl,s2,ox,hx2,b2⟩
 have HS2:=Hj (And.intro s2 ox)
 have HB2:=Hj b2
 clear s2 ox b2 hx2
 go_wp2_with fail
 refine (Uh KF _).mono ?_
 rintro _ w3 ⟨a3,n3,ys,rfl,s3,hr3,na3,b3⟩
 obtain ⟨oy,tn3⟩:=from1 s3 hr3
 have HS3:=Hj (And.intro ((Uh HS2).1.below b3) (And.intro (Uh HS2).2 (And.intro s3 oy)))
 have HB3:=Hj ((Uh HB2).trans (b3.mono (Uh HB2).size))
 clear s3 oy b3 HS2 HB2 hr3 na3
 have hO8:=(Uh HO).1.keep (Uh HB3)
 obtain ⟨j0,u0⟩:=hO8.cells 0 (by decide)
 obtain ⟨j1,u1⟩:=hO8.cells 1 (by decide)
 obtain ⟨j2,u2⟩:=hO8.cells 2 (by decide)
 have v0:=hO8.fz 0 (by decide)
 have v1:=hO8.fz 1 (by decide)
 have v2:=hO8.fz 2 (by decide)
 have HR:=Hj (And.intro (three_set w3 w.heap.size (.bool false) (.slice none 0 0) (.slice none 0 0) hO8.cells) ((Uh HO).2.trans ((Uh HB3).mono (Uh HO).2.size)))
 clear hO8
 go_wp2_with fail
 obtain ⟨⟨t0_,t1_,t2_,cc_⟩,hR⟩:=Uh HR
 generalize ((w3.setCell ⟨w.heap.size,0,none⟩ (.bool false)).setCell ⟨w.heap.size,1,none⟩ (.slice none 0 0)).setCell ⟨w.heap.size,2,none⟩ (.slice none 0 0) = wf at *
 refine bodyPost_ret (by simp [results,Tryz.results26,go_sem,t0_,t1_,t2_]; try rfl) rfl ?_
 exact ⟨_,_,_,_,_,_,_,rfl,hR.trans (cc_.below hR.size (fun k hk => by omega))⟩
set_option maxRecDepth 100000 in
set_option maxHeartbeats 16000000 in
theorem n4_pNB (s:ByteArray) (i:Nat) (w:World) (hs:s.size ≤ 65536) (hi:i < s.size) (h91:byA s i = 91) (h1:i + 1 < s.size) (hm:byA s (i + 1) ≠ 45) (n:Nat) (hn:enR dgtN s (i + 1) = ((i + 1) + n)) (hz:((i + 1) + n) < s.size) (hb:byA s ((i + 1) + n) ≠ 47) (hc:byA s ((i + 1) + n) ≠ 93) :
  Calls Tryz.prog 26 #[.string s,.int .i64 (i:Nat)] w fun e w' => NuA w w' (0) e:=by
 have R1:=enR_run dgtN s (i:=(i + 1)) (by omega)
 rw [hn] at R1
 have hnt:=R1.top
 obtain ⟨wo,hwo⟩:∃ z,w.alloc (.cells #[.bool false,.slice none 0 0,.slice none 0 0] 39) = z:=⟨_,rfl⟩
 have hbo:Below w.heap.size w wo:=by rw [← hwo]; exact bAl
 have hO:=Out.made w
 rw [hwo] at hO
 have HO:=Hj (And.intro hO hbo)
 have HX:=Hj (Below.refl wo.heap.size wo)
 clear hO hbo
 have K1:=w4dfrom_any s (i + 1) wo hs (by omega)
 rw [hn,show ((i + 1) + n) - (i + 1) = n by omega] at K1
 have H1:=Hj K1
 have KP1:=Hj (fun (W:World) => wparse4 hs R1 W)
 have KF:=Hj (fun (W:World) => rfrom_any 1 W (by decide))
 have e1:=byA_get s i hi
 have t91:(((s[i]'hi).toNat:Int) == 91) = true:=by simp; omega
 have t91':(((s[i]'hi).toNat:Int) != 91) = false:=by simp; omega
 have ti:(i:Int) < (s.size:Int):=by omega
 have t1:(i:Int) + 1 < (s.size:Int):=by omega
 have e2:=byA_get s (i + 1) h1
 have t45:(((s[i + 1]'h1).toNat:Int) == 45) = false:=by simp; omega
 have e3:=byA_get s ((i + 1) + n) hz
 have t47:(((s[((i + 1) + n)]'hz).toNat:Int) == 47) = false:=by simp; omega
 have e4:=byA_get s ((i + 1) + n) hz
 have t93:(((s[((i + 1) + n)]'hz).toNat:Int) == 93) = false:=by simp; omega
 have t93':(((s[((i + 1) + n)]'hz).toNat:Int) != 93) = true:=by simp; omega
 have ta1:(i:Int) + 1 + (n:Int) ≤ (s.size:Int):=by omega
 have ta2:(i:Int) + 1 + (n:Int) < (s.size:Int):=by omega
 have tz:¬ (s.size:Int) ≤ (i:Int) + 1 + (n:Int):=by omega
 obtain ⟨er1,her1⟩:∃ q,erD s (i + 1) ((i + 1) + n) = q:=⟨_,rfl⟩
 rw [her1] at KP1
 clear K1 hn e1 her1 R1 e2 hm e3 hb e4 hc
 go_enter Tryz.func26,Tryz.ntmps26
 go_wp2_with fail
 refine (Uh H1).mono ?_
 rintro _ _ ⟨rfl,hw⟩
 obtain rfl:=hw.symm
 clear hw H1
 go_wp2_with fail
 refine (Uh KP1 _).mono ?_
 rintro _ w2 ⟨a2,n2,c2,xs,rfl,s2,ox,hx2,b2⟩
 have HS2:=Hj (And.intro s2 ox)
 have HB2:=Hj b2
 clear s2 ox b2 hx2
 go_wp2_with fail
 refine (Uh KF _).mono ?_
 rintro _ w3 ⟨a3,n3,ys,rfl,s3,hr3,na3,b3⟩
 obtain ⟨oy,tn3⟩:=from1 s3 hr3
 have HS3:=Hj (And.intro ((Uh HS2).1.below b3) (And.intro (Uh HS2).2 (And.intro s3 oy)))
 have HB3:=Hj ((Uh HB2).trans (b3.mono (Uh HB2).size))
 clear s3 oy b3 HS2 HB2 hr3 na3
 have hO8:=(Uh HO).1.keep (Uh HB3)
 obtain ⟨j0,u0⟩:=hO8.cells 0 (by decide)
 obtain ⟨j1,u1⟩:=hO8.cells 1 (by decide)
 obtain ⟨j2,u2⟩:=hO8.cells 2 (by decide)
 have v0:=hO8.fz 0 (by decide)
 have v1:=hO8.fz 1 (by decide)
 have v2:=hO8.fz 2 (by decide)
 have HR:=Hj (And.intro (three_set w3 w.heap.size (.bool false) (.slice none 0 0) (.slice none 0 0) hO8.cells) ((Uh HO).2.trans ((Uh HB3).mono (Uh HO).2.size)))
 clear hO8
 go_wp2_with fail
 obtain ⟨⟨t0_,t1_,t2_,cc_⟩,hR⟩:=Uh HR
 generalize ((w3.setCell ⟨w.heap.size,0,none⟩ (.bool false)).setCell ⟨w.heap.size,1,none⟩ (.slice none 0 0)).setCell ⟨w.heap.size,2,none⟩ (.slice none 0 0) = wf at *
 refine bodyPost_ret (by simp [results,Tryz.results26,go_sem,t0_,t1_,t2_]; try rfl) rfl ?_
 exact ⟨_,_,_,_,_,_,_,rfl,hR.trans (cc_.below hR.size (fun k hk => by omega))⟩
set_option maxRecDepth 100000 in
set_option maxHeartbeats 16000000 in
theorem n4_pNX (s:ByteArray) (i:Nat) (w:World) (hs:s.size ≤ 65536) (hi:i < s.size) (h91:byA s i = 91) (h1:i + 1 < s.size) (hm:byA s (i + 1) ≠ 45) (n:Nat) (hn:enR dgtN s (i + 1) = ((i + 1) + n)) (hz:((i + 1) + n) < s.size) (hb:byA s ((i + 1) + n) ≠ 47) (hc:byA s ((i + 1) + n) = 93) (he:erD s (i + 1) ((i + 1) + n) ≠ 0) :
  Calls Tryz.prog 26 #[.string s,.int .i64 (i:Nat)] w fun e w' => NuA w w' (0) e:=by
 have R1:=enR_run dgtN s (i:=(i + 1)) (by omega)
 rw [hn] at R1
 have hnt:=R1.top
 obtain ⟨wo,hwo⟩:∃ z,w.alloc (.cells #[.bool false,.slice none 0 0,.slice none 0 0] 39) = z:=⟨_,rfl⟩
 have hbo:Below w.heap.size w wo:=by rw [← hwo]; exact bAl
 have hO:=Out.made w
 rw [hwo] at hO
 have HO:=Hj (And.intro hO hbo)
 have HX:=Hj (Below.refl wo.heap.size wo)
 clear hO hbo
 have K1:=w4dfrom_any s (i + 1) wo hs (by omega)
 rw [hn,show ((i + 1) + n) - (i + 1) = n by omega] at K1
 have H1:=Hj K1
 have KP1:=Hj (fun (W:World) => wparse4 hs R1 W)
 have KF:=Hj (fun (W:World) => rfrom_any 1 W (by decide))
 have e1:=byA_get s i hi
 have t91:(((s[i]'hi).toNat:Int) == 91) = true:=by simp; omega
 have t91':(((s[i]'hi).toNat:Int) != 91) = false:=by simp; omega
 have ti:(i:Int) < (s.size:Int):=by omega
 have t1:(i:Int) + 1 < (s.size:Int):=by omega
 have e2:=byA_get s (i + 1) h1
 have t45:(((s[i + 1]'h1).toNat:Int) == 45) = false:=by simp; omega
 have e3:=byA_get s ((i + 1) + n) hz
 have t47:(((s[((i + 1) + n)]'hz).toNat:Int) == 47) = false:=by simp; omega
 have e4:=byA_get s ((i + 1) + n) hz
 have t93:(((s[((i + 1) + n)]'hz).toNat:Int) == 93) = true:=by simp; omega
 have t93':(((s[((i + 1) + n)]'hz).toNat:Int) != 93) = false:=by simp; omega
 have ta1:(i:Int) + 1 + (n:Int) ≤ (s.size:Int):=by omega
 have ta2:(i:Int) + 1 + (n:Int) < (s.size:Int):=by omega
 have tz:¬ (s.size:Int) ≤ (i:Int) + 1 + (n:Int):=by omega
 obtain ⟨er1,her1⟩:∃ q,erD s (i + 1) ((i + 1) + n) = q:=⟨_,rfl⟩
 rw [her1] at KP1
 have te1:((er1:Int) != 0) = true:=by rw [← her1]; simpa using he
 have te1':((er1:Int) == 0) = false:=by rw [← her1]; simpa using he
 clear K1 hn e1 her1 R1 e2 hm e3 hb e4 hc he
 go_enter Tryz.func26,Tryz.ntmps26
 go_wp2_with fail
 refine (Uh H1).mono ?_
 rintro _ _ ⟨rfl,hw⟩
 obtain rfl:=hw.symm
 clear hw H1
 go_wp2_with fail
 refine (Uh KP1 _).mono ?_
 rintro _ w2 ⟨a2,n2,c2,xs,rfl,s2,ox,hx2,b2⟩
 have HS2:=Hj (And.intro s2 ox)
 have HB2:=Hj b2
 clear s2 ox b2 hx2
 go_wp2_with fail
 refine (Uh KF _).mono ?_
 rintro _ w3 ⟨a3,n3,ys,rfl,s3,hr3,na3,b3⟩
 obtain ⟨oy,tn3⟩:=from1 s3 hr3
 have HS3:=Hj (And.intro ((Uh HS2).1.below b3) (And.intro (Uh HS2).2 (And.intro s3 oy)))
 have HB3:=Hj ((Uh HB2).trans (b3.mono (Uh HB2).size))
 clear s3 oy b3 HS2 HB2 hr3 na3
 have hO8:=(Uh HO).1.keep (Uh HB3)
 obtain ⟨j0,u0⟩:=hO8.cells 0 (by decide)
 obtain ⟨j1,u1⟩:=hO8.cells 1 (by decide)
 obtain ⟨j2,u2⟩:=hO8.cells 2 (by decide)
 have v0:=hO8.fz 0 (by decide)
 have v1:=hO8.fz 1 (by decide)
 have v2:=hO8.fz 2 (by decide)
 have HR:=Hj (And.intro (three_set w3 w.heap.size (.bool false) (.slice none 0 0) (.slice none 0 0) hO8.cells) ((Uh HO).2.trans ((Uh HB3).mono (Uh HO).2.size)))
 clear hO8
 go_wp2_with fail
 obtain ⟨⟨t0_,t1_,t2_,cc_⟩,hR⟩:=Uh HR
 generalize ((w3.setCell ⟨w.heap.size,0,none⟩ (.bool false)).setCell ⟨w.heap.size,1,none⟩ (.slice none 0 0)).setCell ⟨w.heap.size,2,none⟩ (.slice none 0 0) = wf at *
 refine bodyPost_ret (by simp [results,Tryz.results26,go_sem,t0_,t1_,t2_]; try rfl) rfl ?_
 exact ⟨_,_,_,_,_,_,_,rfl,hR.trans (cc_.below hR.size (fun k hk => by omega))⟩
set_option maxRecDepth 100000 in
set_option maxHeartbeats 16000000 in
theorem n4_pNO (s:ByteArray) (i:Nat) (w:World) (hs:s.size ≤ 65536) (hi:i < s.size) (h91:byA s i = 91) (h1:i + 1 < s.size) (hm:byA s (i + 1) ≠ 45) (n:Nat) (hn:enR dgtN s (i + 1) = ((i + 1) + n)) (hz:((i + 1) + n) < s.size) (hb:byA s ((i + 1) + n) ≠ 47) (hc:byA s ((i + 1) + n) = 93) (he:erD s (i + 1) ((i + 1) + n) = 0) :
  Calls Tryz.prog 26 #[.string s,.int .i64 (i:Nat)] w fun e w' => NuA w w' (((i + 1) + n) + 1 - i) e:=by
 have R1:=enR_run dgtN s (i:=(i + 1)) (by omega)
 rw [hn] at R1
 have hnt:=R1.top
 obtain ⟨wo,hwo⟩:∃ z,w.alloc (.cells #[.bool false,.slice none 0 0,.slice none 0 0] 39) = z:=⟨_,rfl⟩
 have hbo:Below w.heap.size w wo:=by rw [← hwo]; exact bAl
 have hO:=Out.made w
 rw [hwo] at hO
 have HO:=Hj (And.intro hO hbo)
 have HX:=Hj (Below.refl wo.heap.size wo)
 clear hO hbo
 have K1:=w4dfrom_any s (i + 1) wo hs (by omega)
 rw [hn,show ((i + 1) + n) - (i + 1) = n by omega] at K1
 have H1:=Hj K1
 have KP1:=Hj (fun (W:World) => wparse4 hs R1 W)
 have KF:=Hj (fun (W:World) => rfrom_any 1 W (by decide))
 have e1:=byA_get s i hi
 have t91:(((s[i]'hi).toNat:Int) == 91) = true:=by simp; omega
 have t91':(((s[i]'hi).toNat:Int) != 91) = false:=by simp; omega
 have ti:(i:Int) < (s.size:Int):=by omega
 have t1:(i:Int) + 1 < (s.size:Int):=by omega
 have e2:=byA_get s (i + 1) h1
 have t45:(((s[i + 1]'h1).toNat:Int) == 45) = false:=by simp; omega
 have e3:=byA_get s ((i + 1) + n) hz
 have t47:(((s[((i + 1) + n)]'hz).toNat:Int) == 47) = false:=by simp; omega
 have e4:=byA_get s ((i + 1) + n) hz
 have t93:(((s[((i + 1) + n)]'hz).toNat:Int) == 93) = true:=by simp; omega
 have t93':(((s[((i + 1) + n)]'hz).toNat:Int) != 93) = false:=by simp; omega
 have ta1:(i:Int) + 1 + (n:Int) ≤ (s.size:Int):=by omega
 have ta2:(i:Int) + 1 + (n:Int) < (s.size:Int):=by omega
 have tz:¬ (s.size:Int) ≤ (i:Int) + 1 + (n:Int):=by omega
 obtain ⟨er1,her1⟩:∃ q,erD s (i + 1) ((i + 1) + n) = q:=⟨_,rfl⟩
 rw [her1] at KP1
 have te1:((er1:Int) != 0) = false:=by rw [← her1,he]; rfl
 have te1':((er1:Int) == 0) = true:=by rw [← her1,he]; rfl
 clear K1 hn e1 her1 R1 e2 hm e3 hb e4 hc he
 go_enter Tryz.func26,Tryz.ntmps26
 go_wp2_with fail
 refine (Uh H1).mono ?_
 rintro _ _ ⟨rfl,hw⟩
 obtain rfl:=hw.symm
 clear hw H1
 go_wp2_with fail
 refine (Uh KP1 _).mono ?_
 rintro _ w2 ⟨a2,n2,c2,xs,rfl,s2,ox,hx2,b2⟩
 have HS2:=Hj (And.intro s2 ox)
 have HB2:=Hj b2
 clear s2 ox b2 hx2
 go_wp2_with fail
 refine (Uh KF _).mono ?_
 rintro _ w3 ⟨a3,n3,ys,rfl,s3,hr3,na3,b3⟩
 obtain ⟨oy,tn3⟩:=from1 s3 hr3
 have HS3:=Hj (And.intro ((Uh HS2).1.below b3) (And.intro (Uh HS2).2 (And.intro s3 oy)))
 have HB3:=Hj ((Uh HB2).trans (b3.mono (Uh HB2).size))
 clear s3 oy b3 HS2 HB2 hr3 na3
 have HL:=Hj (wlowest4_any false a2 a3 n2 c2 n3 n3 xs ys w3 (Uh HS3).1 (Uh HS3).2.2.1 (Uh HS3).2.1 (Uh HS3).2.2.2)
 clear HS3
 go_wp2_with fail
 refine (Uh HL).mono ?_
 rintro _ w8 ⟨rg,aN,mN,cN,aD,mD,cD,rfl,b8⟩
 have HB8:=Hj ((Uh HB3).trans (b8.mono (Uh HB3).size))
 have hO8:=(Uh HO).1.keep (Uh HB8)
 obtain ⟨j0,u0⟩:=hO8.cells 0 (by decide)
 obtain ⟨j1,u1⟩:=hO8.cells 1 (by decide)
 obtain ⟨j2,u2⟩:=hO8.cells 2 (by decide)
 have v0:=hO8.fz 0 (by decide)
 have v1:=hO8.fz 1 (by decide)
 have v2:=hO8.fz 2 (by decide)
 have HR:=Hj (And.intro (three_set w8 w.heap.size (.bool rg) (.slice aN mN cN) (.slice aD mD cD) hO8.cells) ((Uh HO).2.trans ((Uh HB8).mono (Uh HO).2.size)))
 clear hO8 b8
 go_wp2_with fail
 obtain ⟨⟨t0_,t1_,t2_,cc_⟩,hR⟩:=Uh HR
 generalize ((w8.setCell ⟨w.heap.size,0,none⟩ (.bool rg)).setCell ⟨w.heap.size,1,none⟩ (.slice aN mN cN)).setCell ⟨w.heap.size,2,none⟩ (.slice aD mD cD) = wf at *
 have hans:(i:Int) + 1 + (n:Int) + 1 - (i:Int) = ((((i + 1) + n) + 1 - i:Nat):Int):=by omega
 refine bodyPost_ret (by simp [results,Tryz.results26,go_sem,t0_,t1_,t2_,hans]; try rfl) rfl ?_
 exact ⟨_,_,_,_,_,_,_,rfl,hR.trans (cc_.below hR.size (fun k hk => by omega))⟩
set_option maxRecDepth 100000 in
set_option maxHeartbeats 16000000 in
theorem n4_mNE (s:ByteArray) (i:Nat) (w:World) (hs:s.size ≤ 65536) (hi:i < s.size) (h91:byA s i = 91) (h1:i + 1 < s.size) (hm:byA s (i + 1) = 45) (n:Nat) (hn:enR dgtN s (i + 1 + 1) = ((i + 1 + 1) + n)) (hz:s.size ≤ ((i + 1 + 1) + n)) :
  Calls Tryz.prog 26 #[.string s,.int .i64 (i:Nat)] w fun e w' => NuA w w' (0) e:=by
 have R1:=enR_run dgtN s (i:=(i + 1 + 1)) (by omega)
 rw [hn] at R1
 have hnt:=R1.top
 obtain ⟨wo,hwo⟩:∃ z,w.alloc (.cells #[.bool false,.slice none 0 0,.slice none 0 0] 39) = z:=⟨_,rfl⟩
 have hbo:Below w.heap.size w wo:=by rw [← hwo]; exact bAl
 have hO:=Out.made w
 rw [hwo] at hO
 have HO:=Hj (And.intro hO hbo)
 have HX:=Hj (Below.refl wo.heap.size wo)
 clear hO hbo
 have K1:=w4dfrom_any s (i + 1 + 1) wo hs (by omega)
 rw [hn,show ((i + 1 + 1) + n) - (i + 1 + 1) = n by omega] at K1
 have H1:=Hj K1
 have KP1:=Hj (fun (W:World) => wparse4 hs R1 W)
 have KF:=Hj (fun (W:World) => rfrom_any 1 W (by decide))
 have e1:=byA_get s i hi
 have t91:(((s[i]'hi).toNat:Int) == 91) = true:=by simp; omega
 have t91':(((s[i]'hi).toNat:Int) != 91) = false:=by simp; omega
 have ti:(i:Int) < (s.size:Int):=by omega
 have t1:(i:Int) + 1 < (s.size:Int):=by omega
 have e2:=byA_get s (i + 1) h1
 have t45:(((s[i + 1]'h1).toNat:Int) == 45) = true:=by simp; omega
 have ta1:(i:Int) + 1 + 1 + (n:Int) ≤ (s.size:Int):=by omega
 have ta2:¬ (i:Int) + 1 + 1 + (n:Int) < (s.size:Int):=by omega
 have tz:(s.size:Int) ≤ (i:Int) + 1 + 1 + (n:Int):=by omega
 obtain ⟨er1,her1⟩:∃ q,erD s (i + 1 + 1) ((i + 1 + 1) + n) = q:=⟨_,rfl⟩
 rw [her1] at KP1
 clear K1 hn e1 her1 R1 e2 hm
 go_enter Tryz.func26,Tryz.ntmps26
 go_wp2_with fail
 refine (Uh H1).mono ?_
 rintro _ _ ⟨rfl,hw⟩
 obtain rfl:=hw.symm
 clear hw H1
 go_wp2_with fail
 refine (Uh KP1 _).mono ?_
 rintro _ w2 ⟨a2,n2,c2,xs,rfl,s2,ox,hx2,b2⟩
 have HS2:=Hj (And.intro s2 ox)
 have HB2:=Hj b2
 clear s2 ox b2 hx2
 go_wp2_with fail
 refine (Uh KF _).mono ?_
 rintro _ w3 ⟨a3,n3,ys,rfl,s3,hr3,na3,b3⟩
 obtain ⟨oy,tn3⟩:=from1 s3 hr3
 have HS3:=Hj (And.intro ((Uh HS2).1.below b3) (And.intro (Uh HS2).2 (And.intro s3 oy)))
 have HB3:=Hj ((Uh HB2).trans (b3.mono (Uh HB2).size))
 clear s3 oy b3 HS2 HB2 hr3 na3
 have hO8:=(Uh HO).1.keep (Uh HB3)
 obtain ⟨j0,u0⟩:=hO8.cells 0 (by decide)
 obtain ⟨j1,u1⟩:=hO8.cells 1 (by decide)
 obtain ⟨j2,u2⟩:=hO8.cells 2 (by decide)
 have v0:=hO8.fz 0 (by decide)
 have v1:=hO8.fz 1 (by decide)
 have v2:=hO8.fz 2 (by decide)
 have HR:=Hj (And.intro (three_set w3 w.heap.size (.bool false) (.slice none 0 0) (.slice none 0 0) hO8.cells) ((Uh HO).2.trans ((Uh HB3).mono (Uh HO).2.size)))
 clear hO8
 go_wp2_with fail
 obtain ⟨⟨t0_,t1_,t2_,cc_⟩,hR⟩:=Uh HR
 generalize ((w3.setCell ⟨w.heap.size,0,none⟩ (.bool false)).setCell ⟨w.heap.size,1,none⟩ (.slice none 0 0)).setCell ⟨w.heap.size,2,none⟩ (.slice none 0 0) = wf at *
 refine bodyPost_ret (by simp [results,Tryz.results26,go_sem,t0_,t1_,t2_]; try rfl) rfl ?_
 exact ⟨_,_,_,_,_,_,_,rfl,hR.trans (cc_.below hR.size (fun k hk => by omega))⟩
set_option maxRecDepth 100000 in
set_option maxHeartbeats 16000000 in
theorem n4_mNB (s:ByteArray) (i:Nat) (w:World) (hs:s.size ≤ 65536) (hi:i < s.size) (h91:byA s i = 91) (h1:i + 1 < s.size) (hm:byA s (i + 1) = 45) (n:Nat) (hn:enR dgtN s (i + 1 + 1) = ((i + 1 + 1) + n)) (hz:((i + 1 + 1) + n) < s.size) (hb:byA s ((i + 1 + 1) + n) ≠ 47) (hc:byA s ((i + 1 + 1) + n) ≠ 93) :
  Calls Tryz.prog 26 #[.string s,.int .i64 (i:Nat)] w fun e w' => NuA w w' (0) e:=by
 have R1:=enR_run dgtN s (i:=(i + 1 + 1)) (by omega)
 rw [hn] at R1
 have hnt:=R1.top
 obtain ⟨wo,hwo⟩:∃ z,w.alloc (.cells #[.bool false,.slice none 0 0,.slice none 0 0] 39) = z:=⟨_,rfl⟩
 have hbo:Below w.heap.size w wo:=by rw [← hwo]; exact bAl
 have hO:=Out.made w
 rw [hwo] at hO
 have HO:=Hj (And.intro hO hbo)
 have HX:=Hj (Below.refl wo.heap.size wo)
 clear hO hbo
 have K1:=w4dfrom_any s (i + 1 + 1) wo hs (by omega)
 rw [hn,show ((i + 1 + 1) + n) - (i + 1 + 1) = n by omega] at K1
 have H1:=Hj K1
 have KP1:=Hj (fun (W:World) => wparse4 hs R1 W)
 have KF:=Hj (fun (W:World) => rfrom_any 1 W (by decide))
 have e1:=byA_get s i hi
 have t91:(((s[i]'hi).toNat:Int) == 91) = true:=by simp; omega
 have t91':(((s[i]'hi).toNat:Int) != 91) = false:=by simp; omega
 have ti:(i:Int) < (s.size:Int):=by omega
 have t1:(i:Int) + 1 < (s.size:Int):=by omega
 have e2:=byA_get s (i + 1) h1
 have t45:(((s[i + 1]'h1).toNat:Int) == 45) = true:=by simp; omega
 have e3:=byA_get s ((i + 1 + 1) + n) hz
 have t47:(((s[((i + 1 + 1) + n)]'hz).toNat:Int) == 47) = false:=by simp; omega
 have e4:=byA_get s ((i + 1 + 1) + n) hz
 have t93:(((s[((i + 1 + 1) + n)]'hz).toNat:Int) == 93) = false:=by simp; omega
 have t93':(((s[((i + 1 + 1) + n)]'hz).toNat:Int) != 93) = true:=by simp; omega
 have ta1:(i:Int) + 1 + 1 + (n:Int) ≤ (s.size:Int):=by omega
 have ta2:(i:Int) + 1 + 1 + (n:Int) < (s.size:Int):=by omega
 have tz:¬ (s.size:Int) ≤ (i:Int) + 1 + 1 + (n:Int):=by omega
 obtain ⟨er1,her1⟩:∃ q,erD s (i + 1 + 1) ((i + 1 + 1) + n) = q:=⟨_,rfl⟩
 rw [her1] at KP1
 clear K1 hn e1 her1 R1 e2 hm e3 hb e4 hc
 go_enter Tryz.func26,Tryz.ntmps26
 go_wp2_with fail
 refine (Uh H1).mono ?_
 rintro _ _ ⟨rfl,hw⟩
 obtain rfl:=hw.symm
 clear hw H1
 go_wp2_with fail
 refine (Uh KP1 _).mono ?_
 rintro _ w2 ⟨a2,n2,c2,xs,rfl,s2,ox,hx2,b2⟩
 have HS2:=Hj (And.intro s2 ox)
 have HB2:=Hj b2
 clear s2 ox b2 hx2
 go_wp2_with fail
 refine (Uh KF _).mono ?_
 rintro _ w3 ⟨a3,n3,ys,rfl,s3,hr3,na3,b3⟩
 obtain ⟨oy,tn3⟩:=from1 s3 hr3
 have HS3:=Hj (And.intro ((Uh HS2).1.below b3) (And.intro (Uh HS2).2 (And.intro s3 oy)))
 have HB3:=Hj ((Uh HB2).trans (b3.mono (Uh HB2).size))
 clear s3 oy b3 HS2 HB2 hr3 na3
 have hO8:=(Uh HO).1.keep (Uh HB3)
 obtain ⟨j0,u0⟩:=hO8.cells 0 (by decide)
 obtain ⟨j1,u1⟩:=hO8.cells 1 (by decide)
 obtain ⟨j2,u2⟩:=hO8.cells 2 (by decide)
 have v0:=hO8.fz 0 (by decide)
 have v1:=hO8.fz 1 (by decide)
 have v2:=hO8.fz 2 (by decide)
 have HR:=Hj (And.intro (three_set w3 w.heap.size (.bool false) (.slice none 0 0) (.slice none 0 0) hO8.cells) ((Uh HO).2.trans ((Uh HB3).mono (Uh HO).2.size)))
 clear hO8
 go_wp2_with fail
 obtain ⟨⟨t0_,t1_,t2_,cc_⟩,hR⟩:=Uh HR
 generalize ((w3.setCell ⟨w.heap.size,0,none⟩ (.bool false)).setCell ⟨w.heap.size,1,none⟩ (.slice none 0 0)).setCell ⟨w.heap.size,2,none⟩ (.slice none 0 0) = wf at *
 refine bodyPost_ret (by simp [results,Tryz.results26,go_sem,t0_,t1_,t2_]; try rfl) rfl ?_
 exact ⟨_,_,_,_,_,_,_,rfl,hR.trans (cc_.below hR.size (fun k hk => by omega))⟩
set_option maxRecDepth 100000 in
set_option maxHeartbeats 16000000 in
theorem n4_mNX (s:ByteArray) (i:Nat) (w:World) (hs:s.size ≤ 65536) (hi:i < s.size) (h91:byA s i = 91) (h1:i + 1 < s.size) (hm:byA s (i + 1) = 45) (n:Nat) (hn:enR dgtN s (i + 1 + 1) = ((i + 1 + 1) + n)) (hz:((i + 1 + 1) + n) < s.size) (hb:byA s ((i + 1 + 1) + n) ≠ 47) (hc:byA s ((i + 1 + 1) + n) = 93) (he:erD s (i + 1 + 1) ((i + 1 + 1) + n) ≠ 0) :
  Calls Tryz.prog 26 #[.string s,.int .i64 (i:Nat)] w fun e w' => NuA w w' (0) e:=by
 have R1:=enR_run dgtN s (i:=(i + 1 + 1)) (by omega)
 rw [hn] at R1
 have hnt:=R1.top
 obtain ⟨wo,hwo⟩:∃ z,w.alloc (.cells #[.bool false,.slice none 0 0,.slice none 0 0] 39) = z:=⟨_,rfl⟩
 have hbo:Below w.heap.size w wo:=by rw [← hwo]; exact bAl
 have hO:=Out.made w
 rw [hwo] at hO
 have HO:=Hj (And.intro hO hbo)
 have HX:=Hj (Below.refl wo.heap.size wo)
 clear hO hbo
 have K1:=w4dfrom_any s (i + 1 + 1) wo hs (by omega)
 rw [hn,show ((i + 1 + 1) + n) - (i + 1 + 1) = n by omega] at K1
 have H1:=Hj K1
 have KP1:=Hj (fun (W:World) => wparse4 hs R1 W)
 have KF:=Hj (fun (W:World) => rfrom_any 1 W (by decide))
 have e1:=byA_get s i hi
 have t91:(((s[i]'hi).toNat:Int) == 91) = true:=by simp; omega
 have t91':(((s[i]'hi).toNat:Int) != 91) = false:=by simp; omega
 have ti:(i:Int) < (s.size:Int):=by omega
 have t1:(i:Int) + 1 < (s.size:Int):=by omega
 have e2:=byA_get s (i + 1) h1
 have t45:(((s[i + 1]'h1).toNat:Int) == 45) = true:=by simp; omega
 have e3:=byA_get s ((i + 1 + 1) + n) hz
 have t47:(((s[((i + 1 + 1) + n)]'hz).toNat:Int) == 47) = false:=by simp; omega
 have e4:=byA_get s ((i + 1 + 1) + n) hz
 have t93:(((s[((i + 1 + 1) + n)]'hz).toNat:Int) == 93) = true:=by simp; omega
 have t93':(((s[((i + 1 + 1) + n)]'hz).toNat:Int) != 93) = false:=by simp; omega
 have ta1:(i:Int) + 1 + 1 + (n:Int) ≤ (s.size:Int):=by omega
 have ta2:(i:Int) + 1 + 1 + (n:Int) < (s.size:Int):=by omega
 have tz:¬ (s.size:Int) ≤ (i:Int) + 1 + 1 + (n:Int):=by omega
 obtain ⟨er1,her1⟩:∃ q,erD s (i + 1 + 1) ((i + 1 + 1) + n) = q:=⟨_,rfl⟩
 rw [her1] at KP1
 have te1:((er1:Int) != 0) = true:=by rw [← her1]; simpa using he
 have te1':((er1:Int) == 0) = false:=by rw [← her1]; simpa using he
 clear K1 hn e1 her1 R1 e2 hm e3 hb e4 hc he
 go_enter Tryz.func26,Tryz.ntmps26
 go_wp2_with fail
 refine (Uh H1).mono ?_
 rintro _ _ ⟨rfl,hw⟩
 obtain rfl:=hw.symm
 clear hw H1
 go_wp2_with fail
 refine (Uh KP1 _).mono ?_
 rintro _ w2 ⟨a2,n2,c2,xs,rfl,s2,ox,hx2,b2⟩
 have HS2:=Hj (And.intro s2 ox)
 have HB2:=Hj b2
 clear s2 ox b2 hx2
 go_wp2_with fail
 refine (Uh KF _).mono ?_
 rintro _ w3 ⟨a3,n3,ys,rfl,s3,hr3,na3,b3⟩
 obtain ⟨oy,tn3⟩:=from1 s3 hr3
 have HS3:=Hj (And.intro ((Uh HS2).1.below b3) (And.intro (Uh HS2).2 (And.intro s3 oy)))
 have HB3:=Hj ((Uh HB2).trans (b3.mono (Uh HB2).size))
 clear s3 oy b3 HS2 HB2 hr3 na3
 have hO8:=(Uh HO).1.keep (Uh HB3)
 obtain ⟨j0,u0⟩:=hO8.cells 0 (by decide)
 obtain ⟨j1,u1⟩:=hO8.cells 1 (by decide)
 obtain ⟨j2,u2⟩:=hO8.cells 2 (by decide)
 have v0:=hO8.fz 0 (by decide)
 have v1:=hO8.fz 1 (by decide)
 have v2:=hO8.fz 2 (by decide)
 have HR:=Hj (And.intro (three_set w3 w.heap.size (.bool false) (.slice none 0 0) (.slice none 0 0) hO8.cells) ((Uh HO).2.trans ((Uh HB3).mono (Uh HO).2.size)))
 clear hO8
 go_wp2_with fail
 obtain ⟨⟨t0_,t1_,t2_,cc_⟩,hR⟩:=Uh HR
 generalize ((w3.setCell ⟨w.heap.size,0,none⟩ (.bool false)).setCell ⟨w.heap.size,1,none⟩ (.slice none 0 0)).setCell ⟨w.heap.size,2,none⟩ (.slice none 0 0) = wf at *
 refine bodyPost_ret (by simp [results,Tryz.results26,go_sem,t0_,t1_,t2_]; try rfl) rfl ?_
 exact ⟨_,_,_,_,_,_,_,rfl,hR.trans (cc_.below hR.size (fun k hk => by omega))⟩
set_option maxRecDepth 100000 in
set_option maxHeartbeats 16000000 in
theorem n4_mNO (s:ByteArray) (i:Nat) (w:World) (hs:s.size ≤ 65536) (hi:i < s.size) (h91:byA s i = 91) (h1:i + 1 < s.size) (hm:byA s (i + 1) = 45) (n:Nat) (hn:enR dgtN s (i + 1 + 1) = ((i + 1 + 1) + n)) (hz:((i + 1 + 1) + n) < s.size) (hb:byA s ((i + 1 + 1) + n) ≠ 47) (hc:byA s ((i + 1 + 1) + n) = 93) (he:erD s (i + 1 + 1) ((i + 1 + 1) + n) = 0) :
  Calls Tryz.prog 26 #[.string s,.int .i64 (i:Nat)] w fun e w' => NuA w w' (((i + 1 + 1) + n) + 1 - i) e:=by
 have R1:=enR_run dgtN s (i:=(i + 1 + 1)) (by omega)
 rw [hn] at R1
 have hnt:=R1.top
 obtain ⟨wo,hwo⟩:∃ z,w.alloc (.cells #[.bool false,.slice none 0 0,.slice none 0 0] 39) = z:=⟨_,rfl⟩
 have hbo:Below w.heap.size w wo:=by rw [← hwo]; exact bAl
 have hO:=Out.made w
 rw [hwo] at hO
 have HO:=Hj (And.intro hO hbo)
 have HX:=Hj (Below.refl wo.heap.size wo)
 clear hO hbo
 have K1:=w4dfrom_any s (i + 1 + 1) wo hs (by omega)
 rw [hn,show ((i + 1 + 1) + n) - (i + 1 + 1) = n by omega] at K1
 have H1:=Hj K1
 have KP1:=Hj (fun (W:World) => wparse4 hs R1 W)
 have KF:=Hj (fun (W:World) => rfrom_any 1 W (by decide))
 have e1:=byA_get s i hi
 have t91:(((s[i]'hi).toNat:Int) == 91) = true:=by simp; omega
 have t91':(((s[i]'hi).toNat:Int) != 91) = false:=by simp; omega
 have ti:(i:Int) < (s.size:Int):=by omega
 have t1:(i:Int) + 1 < (s.size:Int):=by omega
 have e2:=byA_get s (i + 1) h1
 have t45:(((s[i + 1]'h1).toNat:Int) == 45) = true:=by simp; omega
 have e3:=byA_get s ((i + 1 + 1) + n) hz
 have t47:(((s[((i + 1 + 1) + n)]'hz).toNat:Int) == 47) = false:=by simp; omega
 have e4:=byA_get s ((i + 1 + 1) + n) hz
 have t93:(((s[((i + 1 + 1) + n)]'hz).toNat:Int) == 93) = true:=by simp; omega
 have t93':(((s[((i + 1 + 1) + n)]'hz).toNat:Int) != 93) = false:=by simp; omega
 have ta1:(i:Int) + 1 + 1 + (n:Int) ≤ (s.size:Int):=by omega
 have ta2:(i:Int) + 1 + 1 + (n:Int) < (s.size:Int):=by omega
 have tz:¬ (s.size:Int) ≤ (i:Int) + 1 + 1 + (n:Int):=by omega
 obtain ⟨er1,her1⟩:∃ q,erD s (i + 1 + 1) ((i + 1 + 1) + n) = q:=⟨_,rfl⟩
 rw [her1] at KP1
 have te1:((er1:Int) != 0) = false:=by rw [← her1,he]; rfl
 have te1':((er1:Int) == 0) = true:=by rw [← her1,he]; rfl
 clear K1 hn e1 her1 R1 e2 hm e3 hb e4 hc he
 go_enter Tryz.func26,Tryz.ntmps26
 go_wp2_with fail
 refine (Uh H1).mono ?_
 rintro _ _ ⟨rfl,hw⟩
 obtain rfl:=hw.symm
 clear hw H1
 go_wp2_with fail
 refine (Uh KP1 _).mono ?_
 rintro _ w2 ⟨a2,n2,c2,xs,rfl,s2,ox,hx2,b2⟩
 have HS2:=Hj (And.intro s2 ox)
 have HB2:=Hj b2
 clear s2 ox b2 hx2
 go_wp2_with fail
 refine (Uh KF _).mono ?_
 rintro _ w3 ⟨a3,n3,ys,rfl,s3,hr3,na3,b3⟩
 obtain ⟨oy,tn3⟩:=from1 s3 hr3
 have HS3:=Hj (And.intro ((Uh HS2).1.below b3) (And.intro (Uh HS2).2 (And.intro s3 oy)))
 have HB3:=Hj ((Uh HB2).trans (b3.mono (Uh HB2).size))
 clear s3 oy b3 HS2 HB2 hr3 na3
 have HL:=Hj (wlowest4_any true a2 a3 n2 c2 n3 n3 xs ys w3 (Uh HS3).1 (Uh HS3).2.2.1 (Uh HS3).2.1 (Uh HS3).2.2.2)
 clear HS3
 go_wp2_with fail
 refine (Uh HL).mono ?_
 rintro _ w8 ⟨rg,aN,mN,cN,aD,mD,cD,rfl,b8⟩
 have HB8:=Hj ((Uh HB3).trans (b8.mono (Uh HB3).size))
 have hO8:=(Uh HO).1.keep (Uh HB8)
 obtain ⟨j0,u0⟩:=hO8.cells 0 (by decide)
 obtain ⟨j1,u1⟩:=hO8.cells 1 (by decide)
 obtain ⟨j2,u2⟩:=hO8.cells 2 (by decide)
 have v0:=hO8.fz 0 (by decide)
 have v1:=hO8.fz 1 (by decide)
 have v2:=hO8.fz 2 (by decide)
 have HR:=Hj (And.intro (three_set w8 w.heap.size (.bool rg) (.slice aN mN cN) (.slice aD mD cD) hO8.cells) ((Uh HO).2.trans ((Uh HB8).mono (Uh HO).2.size)))
 clear hO8 b8
 go_wp2_with fail
 obtain ⟨⟨t0_,t1_,t2_,cc_⟩,hR⟩:=Uh HR
 generalize ((w8.setCell ⟨w.heap.size,0,none⟩ (.bool rg)).setCell ⟨w.heap.size,1,none⟩ (.slice aN mN cN)).setCell ⟨w.heap.size,2,none⟩ (.slice aD mD cD) = wf at *
 have hans:(i:Int) + 1 + 1 + (n:Int) + 1 - (i:Int) = ((((i + 1 + 1) + n) + 1 - i:Nat):Int):=by omega
 refine bodyPost_ret (by simp [results,Tryz.results26,go_sem,t0_,t1_,t2_,hans]; try rfl) rfl ?_
 exact ⟨_,_,_,_,_,_,_,rfl,hR.trans (cc_.below hR.size (fun k hk => by omega))⟩
end Go.Proofs.YtjoaijbhpgekoaaGreatDoor
