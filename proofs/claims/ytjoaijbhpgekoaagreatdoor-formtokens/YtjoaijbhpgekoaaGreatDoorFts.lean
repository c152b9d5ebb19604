/- Fts -/
import Derived.Test.YtjoaijbhpgekoaaGreatDoorFtp
namespace Go.Proofs.YtjoaijbhpgekoaaGreatDoor
open Go.RowKit Go.Deep
set_option linter.unusedVariables false
set_option maxRecDepth 100000 in
set_option maxHeartbeats 16000000 in
theorem one_D0 (s:ByteArray) (i:Nat) (w:World) (hs:s.size ≤ 65536) (hi:i < s.size) (hL:ltrN (byA s i) = false) (hD:dgtN (byA s i) = true) (n:Nat) (hn:nuE s i - i = n) (hn2:i + n ≤ s.size) (hz:n = 0) :
  Calls Tryz.prog 14 #[.string s,.int .i64 (i:Nat)] w fun e w' => OnA w w' 81 (s.extract i (i + n)) i e:=by
 obtain ⟨wo,hwo⟩:∃ x,w.alloc (.cells #[.int .i64 0,.string ⟨#[]⟩,.int .i64 0,.bool false,.slice none 0 0,.slice none 0 0] 47) = x:=⟨_,rfl⟩
 have bo:Below w.heap.size w wo:=by rw [← hwo]; exact bAl
 have bO:BoxL wo w.heap.size [.int .i64 0,.string ⟨#[]⟩,.int .i64 0,.bool false,.slice none 0 0,.slice none 0 0]:=by have:=BoxL.made w #[.int .i64 0,.string ⟨#[]⟩,.int .i64 0,.bool false,.slice none 0 0,.slice none 0 0] 47; rw [hwo] at this; exact this
 have e1:=byA_get s i hi
 have e2:(s[i]'hi).toNat = byA s i:=by omega
 have KL:=w4letter_any (s[i]'hi).toNat wo
 have KD:=w4digit_any (s[i]'hi).toNat wo
 rw [show ltrN (s[i]'hi).toNat = false by rw [e2]; exact hL] at KL
 rw [show dgtN (s[i]'hi).toNat = true by rw [e2]; exact hD] at KD
 have HL:=Hj KL
 have HD:=Hj KD
 have KN:=n4_any s i wo hs hi
 rw [hn] at KN
 have HN:=Hj KN
 have ti:(i:Int) < (s.size:Int):=by omega
 have tn:(i:Int) + (n:Int) ≤ (s.size:Int):=by omega
 have tz:((n:Int) == 0) = true:=by simp; omega
 have HB:=Hj (And.intro bO bo)
 clear KL KD KN bO bo e1 e2 hn
 go_enter Tryz.func14,Tryz.ntmps14
 go_wp2_with fail
 refine (Uh HL).mono ?_
 rintro _ _ ⟨rfl,hw⟩
 obtain rfl:=hw.symm
 clear hw HL
 go_wp2_with fail
 refine (Uh HD).mono ?_
 rintro _ _ ⟨rfl,hw⟩
 obtain rfl:=hw.symm
 clear hw HD
 go_wp2_with fail
 refine (Uh HN).mono ?_
 rintro _ w2 ⟨rg,aN,mN,cN,aD,mD,cD,rfl,b2⟩
 clear HN
 try dsimp only
 repeat ((fail_if_success (with_reducible (show Code.wp _ _ _ _ (World.alloc w2 _)))); (first | go_values | go_skip | go_guarded | go_step | go_upon | go_back))
 have bO2:=(Uh HB).1.below b2
 have bo2:=(Uh HB).2.trans (b2.mono (Uh HB).2.size)
 have b3:Below w2.heap.size w2 (w2.alloc (.cells #[.bool rg,.slice aN mN cN,.slice aD mD cD] 39)):=bAl
 have bV:=BoxL.made w2 #[.bool rg,.slice aN mN cN,.slice aD mD cD] 39
 have bO3:=bO2.below b3
 have bo3:=bo2.trans (b3.mono bo2.size)
 generalize w2.alloc (.cells #[.bool rg,.slice aN mN cN,.slice aD mD cD] 39) = w3 at *
 have v0:=(bV.all 0 _ rfl).1
 have v1:=(bV.all 1 _ rfl).1
 have v2:=(bV.all 2 _ rfl).1
 have o0:=(bO3.all 0 _ rfl).1
 have o0f:=(bO3.all 0 _ rfl).2
 have o1:=(bO3.all 1 _ rfl).1
 have o1f:=(bO3.all 1 _ rfl).2
 have o2:=(bO3.all 2 _ rfl).1
 have o2f:=(bO3.all 2 _ rfl).2
 have o3:=(bO3.all 3 _ rfl).1
 have o3f:=(bO3.all 3 _ rfl).2
 have o4:=(bO3.all 4 _ rfl).1
 have o4f:=(bO3.all 4 _ rfl).2
 have o5:=(bO3.all 5 _ rfl).1
 have o5f:=(bO3.all 5 _ rfl).2
 have HB3:=Hj (And.intro bO3 bo3)
 clear bO2 bo2 b3 bV bO3 bo3 b2 HB
 go_wp2_with fail
 obtain ⟨bO3,bo3⟩:=Uh HB3
 have hf:=((((((bO3).put 0 (.int .i64 0)).put 1 (.string ⟨#[]⟩)).put 2 (.int .i64 0)).put 3 (.bool false)).put 4 (.slice none 0 0)).put 5 (.slice none 0 0)
 have f0:=(hf.all 0 _ rfl).1
 have f1:=(hf.all 1 _ rfl).1
 have f2:=(hf.all 2 _ rfl).1
 have f3:=(hf.all 3 _ rfl).1
 have f4:=(hf.all 4 _ rfl).1
 have f5:=(hf.all 5 _ rfl).1
 have hb:=bel_put (bel_put (bel_put (bel_put (bel_put (bel_put (bo3) (b:=w.heap.size) (Nat.le_refl _) (Nat.le_refl _) 0 (.int .i64 0)) (b:=w.heap.size) (Nat.le_refl _) (Nat.le_refl _) 1 (.string ⟨#[]⟩)) (b:=w.heap.size) (Nat.le_refl _) (Nat.le_refl _) 2 (.int .i64 0)) (b:=w.heap.size) (Nat.le_refl _) (Nat.le_refl _) 3 (.bool false)) (b:=w.heap.size) (Nat.le_refl _) (Nat.le_refl _) 4 (.slice none 0 0)) (b:=w.heap.size) (Nat.le_refl _) (Nat.le_refl _) 5 (.slice none 0 0)
 generalize ((((((w3.setCell ⟨w.heap.size,0,none⟩ (.int .i64 0)).setCell ⟨w.heap.size,1,none⟩ (.string ⟨#[]⟩)).setCell ⟨w.heap.size,2,none⟩ (.int .i64 0)).setCell ⟨w.heap.size,3,none⟩ (.bool false)).setCell ⟨w.heap.size,4,none⟩ (.slice none 0 0)).setCell ⟨w.heap.size,5,none⟩ (.slice none 0 0)) = wf at *
 refine bodyPost_ret (by simp [results,Tryz.results14,go_sem,f0,f1,f2,f3,f4,f5]; try rfl) rfl ?_
 exact ⟨_,_,_,_,_,_,_,_,_,_,rfl,(fun e => absurd e (by decide)),hb⟩
set_option maxRecDepth 100000 in
set_option maxHeartbeats 16000000 in
theorem one_DE (s:ByteArray) (i:Nat) (w:World) (hs:s.size ≤ 65536) (hi:i < s.size) (hL:ltrN (byA s i) = false) (hD:dgtN (byA s i) = true) (n:Nat) (hn:nuE s i - i = n) (hn2:i + n ≤ s.size) (hz:0 < n) (he:s.size ≤ i + n) :
  Calls Tryz.prog 14 #[.string s,.int .i64 (i:Nat)] w fun e w' => OnA w w' 0 (s.extract i (i + n)) i e:=by
 obtain ⟨wo,hwo⟩:∃ x,w.alloc (.cells #[.int .i64 0,.string ⟨#[]⟩,.int .i64 0,.bool false,.slice none 0 0,.slice none 0 0] 47) = x:=⟨_,rfl⟩
 have bo:Below w.heap.size w wo:=by rw [← hwo]; exact bAl
 have bO:BoxL wo w.heap.size [.int .i64 0,.string ⟨#[]⟩,.int .i64 0,.bool false,.slice none 0 0,.slice none 0 0]:=by have:=BoxL.made w #[.int .i64 0,.string ⟨#[]⟩,.int .i64 0,.bool false,.slice none 0 0,.slice none 0 0] 47; rw [hwo] at this; exact this
 have e1:=byA_get s i hi
 have e2:(s[i]'hi).toNat = byA s i:=by omega
 have KL:=w4letter_any (s[i]'hi).toNat wo
 have KD:=w4digit_any (s[i]'hi).toNat wo
 rw [show ltrN (s[i]'hi).toNat = false by rw [e2]; exact hL] at KL
 rw [show dgtN (s[i]'hi).toNat = true by rw [e2]; exact hD] at KD
 have HL:=Hj KL
 have HD:=Hj KD
 have KN:=n4_any s i wo hs hi
 rw [hn] at KN
 have HN:=Hj KN
 have ti:(i:Int) < (s.size:Int):=by omega
 have tn:(i:Int) + (n:Int) ≤ (s.size:Int):=by omega
 have tz:((n:Int) == 0) = false:=by simp; omega
 have te:¬ (i:Int) + (n:Int) < (s.size:Int):=by omega
 have HB:=Hj (And.intro bO bo)
 clear KL KD KN bO bo e1 e2 hn
 go_enter Tryz.func14,Tryz.ntmps14
 go_wp2_with fail
 refine (Uh HL).mono ?_
 rintro _ _ ⟨rfl,hw⟩
 obtain rfl:=hw.symm
 clear hw HL
 go_wp2_with fail
 refine (Uh HD).mono ?_
 rintro _ _ ⟨rfl,hw⟩
 obtain rfl:=hw.symm
 clear hw HD
 go_wp2_with fail
 refine (Uh HN).mono ?_
 rintro _ w2 ⟨rg,aN,mN,cN,aD,mD,cD,rfl,b2⟩
 clear HN
 try dsimp only
 repeat ((fail_if_success (with_reducible (show Code.wp _ _ _ _ (World.alloc w2 _)))); (first | go_values | go_skip | go_guarded | go_step | go_upon | go_back))
 have bO2:=(Uh HB).1.below b2
 have bo2:=(Uh HB).2.trans (b2.mono (Uh HB).2.size)
 have b3:Below w2.heap.size w2 (w2.alloc (.cells #[.bool rg,.slice aN mN cN,.slice aD mD cD] 39)):=bAl
 have bV:=BoxL.made w2 #[.bool rg,.slice aN mN cN,.slice aD mD cD] 39
 have bO3:=bO2.below b3
 have bo3:=bo2.trans (b3.mono bo2.size)
 generalize w2.alloc (.cells #[.bool rg,.slice aN mN cN,.slice aD mD cD] 39) = w3 at *
 have v0:=(bV.all 0 _ rfl).1
 have v1:=(bV.all 1 _ rfl).1
 have v2:=(bV.all 2 _ rfl).1
 have o0:=(bO3.all 0 _ rfl).1
 have o0f:=(bO3.all 0 _ rfl).2
 have o1:=(bO3.all 1 _ rfl).1
 have o1f:=(bO3.all 1 _ rfl).2
 have o2:=(bO3.all 2 _ rfl).1
 have o2f:=(bO3.all 2 _ rfl).2
 have o3:=(bO3.all 3 _ rfl).1
 have o3f:=(bO3.all 3 _ rfl).2
 have o4:=(bO3.all 4 _ rfl).1
 have o4f:=(bO3.all 4 _ rfl).2
 have o5:=(bO3.all 5 _ rfl).1
 have o5f:=(bO3.all 5 _ rfl).2
 have HB3:=Hj (And.intro bO3 bo3)
 clear bO2 bo2 b3 bV bO3 bo3 b2 HB
 go_wp2_with fail
 go_region
 all_goals go_wp2_with fail
 obtain ⟨bO3,bo3⟩:=Uh HB3
 have hf:=((((((bO3).put 0 (.int .i64 3)).put 1 (.string (s.extract i (i + n)))).put 2 (.int .i64 (i:Int))).put 3 (.bool rg)).put 4 (.slice aN mN cN)).put 5 (.slice aD mD cD)
 have hf:=hf.below ((Below.refl _ _).drew)
 have f0:=(hf.all 0 _ rfl).1
 have f1:=(hf.all 1 _ rfl).1
 have f2:=(hf.all 2 _ rfl).1
 have f3:=(hf.all 3 _ rfl).1
 have f4:=(hf.all 4 _ rfl).1
 have f5:=(hf.all 5 _ rfl).1
 have hb:=bel_put (bel_put (bel_put (bel_put (bel_put (bel_put (bo3) (b:=w.heap.size) (Nat.le_refl _) (Nat.le_refl _) 0 (.int .i64 3)) (b:=w.heap.size) (Nat.le_refl _) (Nat.le_refl _) 1 (.string (s.extract i (i + n)))) (b:=w.heap.size) (Nat.le_refl _) (Nat.le_refl _) 2 (.int .i64 (i:Int))) (b:=w.heap.size) (Nat.le_refl _) (Nat.le_refl _) 3 (.bool rg)) (b:=w.heap.size) (Nat.le_refl _) (Nat.le_refl _) 4 (.slice aN mN cN)) (b:=w.heap.size) (Nat.le_refl _) (Nat.le_refl _) 5 (.slice aD mD cD)
 have hb:=hb.drew
 generalize ((((((w3.setCell ⟨w.heap.size,0,none⟩ (.int .i64 3)).setCell ⟨w.heap.size,1,none⟩ (.string (s.extract i (i + n)))).setCell ⟨w.heap.size,2,none⟩ (.int .i64 (i:Int))).setCell ⟨w.heap.size,3,none⟩ (.bool rg)).setCell ⟨w.heap.size,4,none⟩ (.slice aN mN cN)).setCell ⟨w.heap.size,5,none⟩ (.slice aD mD cD)).drew = wf at *
 refine bodyPost_ret (by simp [results,Tryz.results14,go_sem,f0,f1,f2,f3,f4,f5]; try rfl) rfl ?_
 exact ⟨_,_,_,_,_,_,_,_,_,_,rfl,(fun _ => ⟨rfl,rfl⟩),hb⟩
set_option maxRecDepth 100000 in
set_option maxHeartbeats 16000000 in
theorem one_DL (s:ByteArray) (i:Nat) (w:World) (hs:s.size ≤ 65536) (hi:i < s.size) (hL:ltrN (byA s i) = false) (hD:dgtN (byA s i) = true) (n:Nat) (hn:nuE s i - i = n) (hn2:i + n ≤ s.size) (hz:0 < n) (he:i + n < s.size) (hl:ltrN (byA s (i + n)) = true) :
  Calls Tryz.prog 14 #[.string s,.int .i64 (i:Nat)] w fun e w' => OnA w w' 81 (s.extract i (i + n)) i e:=by
 obtain ⟨wo,hwo⟩:∃ x,w.alloc (.cells #[.int .i64 0,.string ⟨#[]⟩,.int .i64 0,.bool false,.slice none 0 0,.slice none 0 0] 47) = x:=⟨_,rfl⟩
 have bo:Below w.heap.size w wo:=by rw [← hwo]; exact bAl
 have bO:BoxL wo w.heap.size [.int .i64 0,.string ⟨#[]⟩,.int .i64 0,.bool false,.slice none 0 0,.slice none 0 0]:=by have:=BoxL.made w #[.int .i64 0,.string ⟨#[]⟩,.int .i64 0,.bool false,.slice none 0 0,.slice none 0 0] 47; rw [hwo] at this; exact this
 have e1:=byA_get s i hi
 have e2:(s[i]'hi).toNat = byA s i:=by omega
 have KL:=w4letter_any (s[i]'hi).toNat wo
 have KD:=w4digit_any (s[i]'hi).toNat wo
 rw [show ltrN (s[i]'hi).toNat = false by rw [e2]; exact hL] at KL
 rw [show dgtN (s[i]'hi).toNat = true by rw [e2]; exact hD] at KD
 have HL:=Hj KL
 have HD:=Hj KD
 have KN:=n4_any s i wo hs hi
 rw [hn] at KN
 have HN:=Hj KN
 have ti:(i:Int) < (s.size:Int):=by omega
 have tn:(i:Int) + (n:Int) ≤ (s.size:Int):=by omega
 have tz:((n:Int) == 0) = false:=by simp; omega
 have te:(i:Int) + (n:Int) < (s.size:Int):=by omega
 have g1:=byA_get s (i + n) he
 have g2:(s[i + n]'he).toNat = byA s (i + n):=by omega
 have KM:=Hj (fun (W:World) => w4letter_any (s[i + n]'he).toNat W)
 rw [show ltrN (s[i + n]'he).toNat = true by rw [g2]; exact hl] at KM
 have HB:=Hj (And.intro bO bo)
 clear KL KD KN bO bo e1 e2 hn g1 g2
 go_enter Tryz.func14,Tryz.ntmps14
 go_wp2_with fail
 refine (Uh HL).mono ?_
 rintro _ _ ⟨rfl,hw⟩
 obtain rfl:=hw.symm
 clear hw HL
 go_wp2_with fail
 refine (Uh HD).mono ?_
 rintro _ _ ⟨rfl,hw⟩
 obtain rfl:=hw.symm
 clear hw HD
 go_wp2_with fail
 refine (Uh HN).mono ?_
 rintro _ w2 ⟨rg,aN,mN,cN,aD,mD,cD,rfl,b2⟩
 clear HN
 try dsimp only
 repeat ((fail_if_success (with_reducible (show Code.wp _ _ _ _ (World.alloc w2 _)))); (first | go_values | go_skip | go_guarded | go_step | go_upon | go_back))
 have bO2:=(Uh HB).1.below b2
 have bo2:=(Uh HB).2.trans (b2.mono (Uh HB).2.size)
 have b3:Below w2.heap.size w2 (w2.alloc (.cells #[.bool rg,.slice aN mN cN,.slice aD mD cD] 39)):=bAl
 have bV:=BoxL.made w2 #[.bool rg,.slice aN mN cN,.slice aD mD cD] 39
 have bO3:=bO2.below b3
 have bo3:=bo2.trans (b3.mono bo2.size)
 generalize w2.alloc (.cells #[.bool rg,.slice aN mN cN,.slice aD mD cD] 39) = w3 at *
 have v0:=(bV.all 0 _ rfl).1
 have v1:=(bV.all 1 _ rfl).1
 have v2:=(bV.all 2 _ rfl).1
 have o0:=(bO3.all 0 _ rfl).1
 have o0f:=(bO3.all 0 _ rfl).2
 have o1:=(bO3.all 1 _ rfl).1
 have o1f:=(bO3.all 1 _ rfl).2
 have o2:=(bO3.all 2 _ rfl).1
 have o2f:=(bO3.all 2 _ rfl).2
 have o3:=(bO3.all 3 _ rfl).1
 have o3f:=(bO3.all 3 _ rfl).2
 have o4:=(bO3.all 4 _ rfl).1
 have o4f:=(bO3.all 4 _ rfl).2
 have o5:=(bO3.all 5 _ rfl).1
 have o5f:=(bO3.all 5 _ rfl).2
 have HB3:=Hj (And.intro bO3 bo3)
 clear bO2 bo2 b3 bV bO3 bo3 b2 HB
 go_wp2_with fail
 refine (Uh KM _).mono ?_
 rintro _ _ ⟨rfl,hw⟩
 obtain rfl:=hw.symm
 clear hw KM
 go_wp2_with fail
 obtain ⟨bO3,bo3⟩:=Uh HB3
 have hf:=((((((bO3).put 0 (.int .i64 0)).put 1 (.string ⟨#[]⟩)).put 2 (.int .i64 0)).put 3 (.bool false)).put 4 (.slice none 0 0)).put 5 (.slice none 0 0)
 have f0:=(hf.all 0 _ rfl).1
 have f1:=(hf.all 1 _ rfl).1
 have f2:=(hf.all 2 _ rfl).1
 have f3:=(hf.all 3 _ rfl).1
 have f4:=(hf.all 4 _ rfl).1
 have f5:=(hf.all 5 _ rfl).1
 have hb:=bel_put (bel_put (bel_put (bel_put (bel_put (bel_put (bo3) (b:=w.heap.size) (Nat.le_refl _) (Nat.le_refl _) 0 (.int .i64 0)) (b:=w.heap.size) (Nat.le_refl _) (Nat.le_refl _) 1 (.string ⟨#[]⟩)) (b:=w.heap.size) (Nat.le_refl _) (Nat.le_refl _) 2 (.int .i64 0)) (b:=w.heap.size) (Nat.le_refl _) (Nat.le_refl _) 3 (.bool false)) (b:=w.heap.size) (Nat.le_refl _) (Nat.le_refl _) 4 (.slice none 0 0)) (b:=w.heap.size) (Nat.le_refl _) (Nat.le_refl _) 5 (.slice none 0 0)
 generalize ((((((w3.setCell ⟨w.heap.size,0,none⟩ (.int .i64 0)).setCell ⟨w.heap.size,1,none⟩ (.string ⟨#[]⟩)).setCell ⟨w.heap.size,2,none⟩ (.int .i64 0)).setCell ⟨w.heap.size,3,none⟩ (.bool false)).setCell ⟨w.heap.size,4,none⟩ (.slice none 0 0)).setCell ⟨w.heap.size,5,none⟩ (.slice none 0 0)) = wf at *
 refine bodyPost_ret (by simp [results,Tryz.results14,go_sem,f0,f1,f2,f3,f4,f5]; try rfl) rfl ?_
 exact ⟨_,_,_,_,_,_,_,_,_,_,rfl,(fun e => absurd e (by decide)),hb⟩
set_option maxRecDepth 100000 in
set_option maxHeartbeats 16000000 in
theorem one_DD (s:ByteArray) (i:Nat) (w:World) (hs:s.size ≤ 65536) (hi:i < s.size) (hL:ltrN (byA s i) = false) (hD:dgtN (byA s i) = true) (n:Nat) (hn:nuE s i - i = n) (hn2:i + n ≤ s.size) (hz:0 < n) (he:i + n < s.size) (hl:ltrN (byA s (i + n)) = false) (hd:byA s (i + n) = 46) :
  Calls Tryz.prog 14 #[.string s,.int .i64 (i:Nat)] w fun e w' => OnA w w' 81 (s.extract i (i + n)) i e:=by
 obtain ⟨wo,hwo⟩:∃ x,w.alloc (.cells #[.int .i64 0,.string ⟨#[]⟩,.int .i64 0,.bool false,.slice none 0 0,.slice none 0 0] 47) = x:=⟨_,rfl⟩
 have bo:Below w.heap.size w wo:=by rw [← hwo]; exact bAl
 have bO:BoxL wo w.heap.size [.int .i64 0,.string ⟨#[]⟩,.int .i64 0,.bool false,.slice none 0 0,.slice none 0 0]:=by have:=BoxL.made w #[.int .i64 0,.string ⟨#[]⟩,.int .i64 0,.bool false,.slice none 0 0,.slice none 0 0] 47; rw [hwo] at this; exact this
 have e1:=byA_get s i hi
 have e2:(s[i]'hi).toNat = byA s i:=by omega
 have KL:=w4letter_any (s[i]'hi).toNat wo
 have KD:=w4digit_any (s[i]'hi).toNat wo
 rw [show ltrN (s[i]'hi).toNat = false by rw [e2]; exact hL] at KL
 rw [show dgtN (s[i]'hi).toNat = true by rw [e2]; exact hD] at KD
 have HL:=Hj KL
 have HD:=Hj KD
 have KN:=n4_any s i wo hs hi
 rw [hn] at KN
 have HN:=Hj KN
 have ti:(i:Int) < (s.size:Int):=by omega
 have tn:(i:Int) + (n:Int) ≤ (s.size:Int):=by omega
 have tz:((n:Int) == 0) = false:=by simp; omega
 have te:(i:Int) + (n:Int) < (s.size:Int):=by omega
 have g1:=byA_get s (i + n) he
 have g2:(s[i + n]'he).toNat = byA s (i + n):=by omega
 have KM:=Hj (fun (W:World) => w4letter_any (s[i + n]'he).toNat W)
 rw [show ltrN (s[i + n]'he).toNat = false by rw [g2]; exact hl] at KM
 have t46:(((s[i + n]'he).toNat:Int) == 46) = true:=by simp; omega
 have HB:=Hj (And.intro bO bo)
 clear KL KD KN bO bo e1 e2 hn g1 g2
 go_enter Tryz.func14,Tryz.ntmps14
 go_wp2_with fail
 refine (Uh HL).mono ?_
 rintro _ _ ⟨rfl,hw⟩
 obtain rfl:=hw.symm
 clear hw HL
 go_wp2_with fail
 refine (Uh HD).mono ?_
 rintro _ _ ⟨rfl,hw⟩
 obtain rfl:=hw.symm
 clear hw HD
 go_wp2_with fail
 refine (Uh HN).mono ?_
 rintro _ w2 ⟨rg,aN,mN,cN,aD,mD,cD,rfl,b2⟩
 clear HN
 try dsimp only
 repeat ((fail_if_success (with_reducible (show Code.wp _ _ _ _ (World.alloc w2 _)))); (first | go_values | go_skip | go_guarded | go_step | go_upon | go_back))
 have bO2:=(Uh HB).1.below b2
 have bo2:=(Uh HB).2.trans (b2.mono (Uh HB).2.size)
 have b3:Below w2.heap.size w2 (w2.alloc (.cells #[.bool rg,.slice aN mN cN,.slice aD mD cD] 39)):=bAl
 have bV:=BoxL.made w2 #[.bool rg,.slice aN mN cN,.slice aD mD cD] 39
 have bO3:=bO2.below b3
 have bo3:=bo2.trans (b3.mono bo2.size)
 generalize w2.alloc (.cells #[.bool rg,.slice aN mN cN,.slice aD mD cD] 39) = w3 at *
 have v0:=(bV.all 0 _ rfl).1
 have v1:=(bV.all 1 _ rfl).1
 have v2:=(bV.all 2 _ rfl).1
 have o0:=(bO3.all 0 _ rfl).1
 have o0f:=(bO3.all 0 _ rfl).2
 have o1:=(bO3.all 1 _ rfl).1
 have o1f:=(bO3.all 1 _ rfl).2
 have o2:=(bO3.all 2 _ rfl).1
 have o2f:=(bO3.all 2 _ rfl).2
 have o3:=(bO3.all 3 _ rfl).1
 have o3f:=(bO3.all 3 _ rfl).2
 have o4:=(bO3.all 4 _ rfl).1
 have o4f:=(bO3.all 4 _ rfl).2
 have o5:=(bO3.all 5 _ rfl).1
 have o5f:=(bO3.all 5 _ rfl).2
 have HB3:=Hj (And.intro bO3 bo3)
 clear bO2 bo2 b3 bV bO3 bo3 b2 HB
 go_wp2_with fail
 refine (Uh KM _).mono ?_
 rintro _ _ ⟨rfl,hw⟩
 obtain rfl:=hw.symm
 clear hw KM
 go_wp2_with fail
 obtain ⟨bO3,bo3⟩:=Uh HB3
 have hf:=((((((bO3).put 0 (.int .i64 0)).put 1 (.string ⟨#[]⟩)).put 2 (.int .i64 0)).put 3 (.bool false)).put 4 (.slice none 0 0)).put 5 (.slice none 0 0)
 have f0:=(hf.all 0 _ rfl).1
 have f1:=(hf.all 1 _ rfl).1
 have f2:=(hf.all 2 _ rfl).1
 have f3:=(hf.all 3 _ rfl).1
 have f4:=(hf.all 4 _ rfl).1
 have f5:=(hf.all 5 _ rfl).1
 have hb:=bel_put (bel_put (bel_put (bel_put (bel_put (bel_put (bo3) (b:=w.heap.size) (Nat.le_refl _) (Nat.le_refl _) 0 (.int .i64 0)) (b:=w.heap.size) (Nat.le_refl _) (Nat.le_refl _) 1 (.string ⟨#[]⟩)) (b:=w.heap.size) (Nat.le_refl _) (Nat.le_refl _) 2 (.int .i64 0)) (b:=w.heap.size) (Nat.le_refl _) (Nat.le_refl _) 3 (.bool false)) (b:=w.heap.size) (Nat.le_refl _) (Nat.le_refl _) 4 (.slice none 0 0)) (b:=w.heap.size) (Nat.le_refl _) (Nat.le_refl _) 5 (.slice none 0 0)
 generalize ((((((w3.setCell ⟨w.heap.size,0,none⟩ (.int .i64 0)).setCell ⟨w.heap.size,1,none⟩ (.string ⟨#[]⟩)).setCell ⟨w.heap.size,2,none⟩ (.int .i64 0)).setCell ⟨w.heap.size,3,none⟩ (.bool false)).setCell ⟨w.heap.size,4,none⟩ (.slice none 0 0)).setCell ⟨w.heap.size,5,none⟩ (.slice none 0 0)) = wf at *
 refine bodyPost_ret (by simp [results,Tryz.results14,go_sem,f0,f1,f2,f3,f4,f5]; try rfl) rfl ?_
 exact ⟨_,_,_,_,_,_,_,_,_,_,rfl,(fun e => absurd e (by decide)),hb⟩
set_option maxRecDepth 100000 in
set_option maxHeartbeats 16000000 in
theorem one_DO (s:ByteArray) (i:Nat) (w:World) (hs:s.size ≤ 65536) (hi:i < s.size) (hL:ltrN (byA s i) = false) (hD:dgtN (byA s i) = true) (n:Nat) (hn:nuE s i - i = n) (hn2:i + n ≤ s.size) (hz:0 < n) (he:i + n < s.size) (hl:ltrN (byA s (i + n)) = false) (hd:byA s (i + n) ≠ 46) :
  Calls Tryz.prog 14 #[.string s,.int .i64 (i:Nat)] w fun e w' => OnA w w' 0 (s.extract i (i + n)) i e:=by
 obtain ⟨wo,hwo⟩:∃ x,w.alloc (.cells #[.int .i64 0,.string ⟨#[]⟩,.int .i64 0,.bool false,.slice none 0 0,.slice none 0 0] 47) = x:=⟨_,rfl⟩
 have bo:Below w.heap.size w wo:=by rw [← hwo]; exact bAl
 have bO:BoxL wo w.heap.size [.int .i64 0,.string ⟨#[]⟩,.int .i64 0,.bool false,.slice none 0 0,.slice none 0 0]:=by have:=BoxL.made w #[.int .i64 0,.string ⟨#[]⟩,.int .i64 0,.bool false,.slice none 0 0,.slice none 0 0] 47; rw [hwo] at this; exact this
 have e1:=byA_get s i hi
 have e2:(s[i]'hi).toNat = byA s i:=by omega
 have KL:=w4letter_any (s[i]'hi).toNat wo
 have KD:=w4digit_any (s[i]'hi).toNat wo
 rw [show ltrN (s[i]'hi).toNat = false by rw [e2]; exact hL] at KL
 rw [show dgtN (s[i]'hi).toNat = true by rw [e2]; exact hD] at KD
 have HL:=Hj KL
 have HD:=Hj KD
 have KN:=n4_any s i wo hs hi
 rw [hn] at KN
 have HN:=Hj KN
 have ti:(i:Int) < (s.size:Int):=by omega
 have tn:(i:Int) + (n:Int) ≤ (s.size:Int):=by omega
 have tz:((n:Int) == 0) = false:=by simp; omega
 have te:(i:Int) + (n:Int) < (s.size:Int):=by omega
 have g1:=byA_get s (i + n) he
 have g2:(s[i + n]'he).toNat = byA s (i + n):=by omega
 have KM:=Hj (fun (W:World) => w4letter_any (s[i + n]'he).toNat W)
 rw [show ltrN (s[i + n]'he).toNat = false by rw [g2]; exact hl] at KM
 have t46:(((s[i + n]'he).toNat:Int) == 46) = false:=by simp; omega
 have HB:=Hj (And.intro bO bo)
 clear KL KD KN bO bo e1 e2 hn g1 g2
 go_enter Tryz.func14,Tryz.ntmps14
 go_wp2_with fail
 refine (Uh HL).mono ?_
 rintro _ _ ⟨rfl,hw⟩
 obtain rfl:=hw.symm
 clear hw HL
 go_wp2_with fail
 refine (Uh HD).mono ?_
 rintro _ _ ⟨rfl,hw⟩
 obtain rfl:=hw.symm
 clear hw HD
 go_wp2_with fail
 refine (Uh HN).mono ?_
 rintro _ w2 ⟨rg,aN,mN,cN,aD,mD,cD,rfl,b2⟩
 clear HN
 try dsimp only
 repeat ((fail_if_success (with_reducible (show Code.wp _ _ _ _ (World.alloc w2 _)))); (first | go_values | go_skip | go_guarded | go_step | go_upon | go_back))
 have bO2:=(Uh HB).1.below b2
 have bo2:=(Uh HB).2.trans (b2.mono (Uh HB).2.size)
 have b3:Below w2.heap.size w2 (w2.alloc (.cells #[.bool rg,.slice aN mN cN,.slice aD mD cD] 39)):=bAl
 have bV:=BoxL.made w2 #[.bool rg,.slice aN mN cN,.slice aD mD cD] 39
 have bO3:=bO2.below b3
 have bo3:=bo2.trans (b3.mono bo2.size)
 generalize w2.alloc (.cells #[.bool rg,.slice aN mN cN,.slice aD mD cD] 39) = w3 at *
 have v0:=(bV.all 0 _ rfl).1
 have v1:=(bV.all 1 _ rfl).1
 have v2:=(bV.all 2 _ rfl).1
 have o0:=(bO3.all 0 _ rfl).1
 have o0f:=(bO3.all 0 _ rfl).2
 have o1:=(bO3.all 1 _ rfl).1
 have o1f:=(bO3.all 1 _ rfl).2
 have o2:=(bO3.all 2 _ rfl).1
 have o2f:=(bO3.all 2 _ rfl).2
 have o3:=(bO3.all 3 _ rfl).1
 have o3f:=(bO3.all 3 _ rfl).2
 have o4:=(bO3.all 4 _ rfl).1
 have o4f:=(bO3.all 4 _ rfl).2
 have o5:=(bO3.all 5 _ rfl).1
 have o5f:=(bO3.all 5 _ rfl).2
 have HB3:=Hj (And.intro bO3 bo3)
 clear bO2 bo2 b3 bV bO3 bo3 b2 HB
 go_wp2_with fail
 refine (Uh KM _).mono ?_
 rintro _ _ ⟨rfl,hw⟩
 obtain rfl:=hw.symm
 clear hw KM
 go_wp2_with fail
 go_region
 all_goals go_wp2_with fail
 obtain ⟨bO3,bo3⟩:=Uh HB3
 have hf:=((((((bO3).put 0 (.int .i64 3)).put 1 (.string (s.extract i (i + n)))).put 2 (.int .i64 (i:Int))).put 3 (.bool rg)).put 4 (.slice aN mN cN)).put 5 (.slice aD mD cD)
 have hf:=hf.below ((Below.refl _ _).drew)
 have f0:=(hf.all 0 _ rfl).1
 have f1:=(hf.all 1 _ rfl).1
 have f2:=(hf.all 2 _ rfl).1
 have f3:=(hf.all 3 _ rfl).1
 have f4:=(hf.all 4 _ rfl).1
 have f5:=(hf.all 5 _ rfl).1
 have hb:=bel_put (bel_put (bel_put (bel_put (bel_put (bel_put (bo3) (b:=w.heap.size) (Nat.le_refl _) (Nat.le_refl _) 0 (.int .i64 3)) (b:=w.heap.size) (Nat.le_refl _) (Nat.le_refl _) 1 (.string (s.extract i (i + n)))) (b:=w.heap.size) (Nat.le_refl _) (Nat.le_refl _) 2 (.int .i64 (i:Int))) (b:=w.heap.size) (Nat.le_refl _) (Nat.le_refl _) 3 (.bool rg)) (b:=w.heap.size) (Nat.le_refl _) (Nat.le_refl _) 4 (.slice aN mN cN)) (b:=w.heap.size) (Nat.le_refl _) (Nat.le_refl _) 5 (.slice aD mD cD)
 have hb:=hb.drew
 generalize ((((((w3.setCell ⟨w.heap.size,0,none⟩ (.int .i64 3)).setCell ⟨w.heap.size,1,none⟩ (.string (s.extract i (i + n)))).setCell ⟨w.heap.size,2,none⟩ (.int .i64 (i:Int))).setCell ⟨w.heap.size,3,none⟩ (.bool rg)).setCell ⟨w.heap.size,4,none⟩ (.slice aN mN cN)).setCell ⟨w.heap.size,5,none⟩ (.slice aD mD cD)).drew = wf at *
 refine bodyPost_ret (by simp [results,Tryz.results14,go_sem,f0,f1,f2,f3,f4,f5]; try rfl) rfl ?_
 exact ⟨_,_,_,_,_,_,_,_,_,_,rfl,(fun _ => ⟨rfl,rfl⟩),hb⟩
set_option maxRecDepth 100000 in
set_option maxHeartbeats 16000000 in
theorem one_K0 (s:ByteArray) (i:Nat) (w:World) (hs:s.size ≤ 65536) (hi:i < s.size) (hL:ltrN (byA s i) = false) (hD:dgtN (byA s i) = false) (h91:byA s i = 91) (n:Nat) (hn:nuE s i - i = n) (hn2:i + n ≤ s.size) (hz:n = 0) :
  Calls Tryz.prog 14 #[.string s,.int .i64 (i:Nat)] w fun e w' => OnA w w' 81 (s.extract i (i + n)) i e:=by
 obtain ⟨wo,hwo⟩:∃ x,w.alloc (.cells #[.int .i64 0,.string ⟨#[]⟩,.int .i64 0,.bool false,.slice none 0 0,.slice none 0 0] 47) = x:=⟨_,rfl⟩
 have bo:Below w.heap.size w wo:=by rw [← hwo]; exact bAl
 have bO:BoxL wo w.heap.size [.int .i64 0,.string ⟨#[]⟩,.int .i64 0,.bool false,.slice none 0 0,.slice none 0 0]:=by have:=BoxL.made w #[.int .i64 0,.string ⟨#[]⟩,.int .i64 0,.bool false,.slice none 0 0,.slice none 0 0] 47; rw [hwo] at this; exact this
 have e1:=byA_get s i hi
 have e2:(s[i]'hi).toNat = byA s i:=by omega
 have KL:=w4letter_any (s[i]'hi).toNat wo
 have KD:=w4digit_any (s[i]'hi).toNat wo
 rw [show ltrN (s[i]'hi).toNat = false by rw [e2]; exact hL] at KL
 rw [show dgtN (s[i]'hi).toNat = false by rw [e2]; exact hD] at KD
 have HL:=Hj KL
 have HD:=Hj KD
 have KN:=n4_any s i wo hs hi
 rw [hn] at KN
 have HN:=Hj KN
 have ti:(i:Int) < (s.size:Int):=by omega
 have tn:(i:Int) + (n:Int) ≤ (s.size:Int):=by omega
 have t91:(((s[i]'hi).toNat:Int) == 91) = true:=by simp; omega
 have tz:((n:Int) == 0) = true:=by simp; omega
 have HB:=Hj (And.intro bO bo)
 clear KL KD KN bO bo e1 e2 hn
 go_enter Tryz.func14,Tryz.ntmps14
 go_wp2_with fail
 refine (Uh HL).mono ?_
 rintro _ _ ⟨rfl,hw⟩
 obtain rfl:=hw.symm
 clear hw HL
 go_wp2_with fail
 refine (Uh HD).mono ?_
 rintro _ _ ⟨rfl,hw⟩
 obtain rfl:=hw.symm
 clear hw HD
 go_wp2_with fail
 refine (Uh HN).mono ?_
 rintro _ w2 ⟨rg,aN,mN,cN,aD,mD,cD,rfl,b2⟩
 clear HN
 try dsimp only
 repeat ((fail_if_success (with_reducible (show Code.wp _ _ _ _ (World.alloc w2 _)))); (first | go_values | go_skip | go_guarded | go_step | go_upon | go_back))
 have bO2:=(Uh HB).1.below b2
 have bo2:=(Uh HB).2.trans (b2.mono (Uh HB).2.size)
 have b3:Below w2.heap.size w2 (w2.alloc (.cells #[.bool rg,.slice aN mN cN,.slice aD mD cD] 39)):=bAl
 have bV:=BoxL.made w2 #[.bool rg,.slice aN mN cN,.slice aD mD cD] 39
 have bO3:=bO2.below b3
 have bo3:=bo2.trans (b3.mono bo2.size)
 generalize w2.alloc (.cells #[.bool rg,.slice aN mN cN,.slice aD mD cD] 39) = w3 at *
 have v0:=(bV.all 0 _ rfl).1
 have v1:=(bV.all 1 _ rfl).1
 have v2:=(bV.all 2 _ rfl).1
 have o0:=(bO3.all 0 _ rfl).1
 have o0f:=(bO3.all 0 _ rfl).2
 have o1:=(bO3.all 1 _ rfl).1
 have o1f:=(bO3.all 1 _ rfl).2
 have o2:=(bO3.all 2 _ rfl).1
 have o2f:=(bO3.all 2 _ rfl).2
 have o3:=(bO3.all 3 _ rfl).1
 have o3f:=(bO3.all 3 _ rfl).2
 have o4:=(bO3.all 4 _ rfl).1
 have o4f:=(bO3.all 4 _ rfl).2
 have o5:=(bO3.all 5 _ rfl).1
 have o5f:=(bO3.all 5 _ rfl).2
 have HB3:=Hj (And.intro bO3 bo3)
 clear bO2 bo2 b3 bV bO3 bo3 b2 HB
 go_wp2_with fail
 obtain ⟨bO3,bo3⟩:=Uh HB3
 have hf:=((((((bO3).put 0 (.int .i64 0)).put 1 (.string ⟨#[]⟩)).put 2 (.int .i64 0)).put 3 (.bool false)).put 4 (.slice none 0 0)).put 5 (.slice none 0 0)
 have f0:=(hf.all 0 _ rfl).1
 have f1:=(hf.all 1 _ rfl).1
 have f2:=(hf.all 2 _ rfl).1
 have f3:=(hf.all 3 _ rfl).1
 have f4:=(hf.all 4 _ rfl).1
 have f5:=(hf.all 5 _ rfl).1
 have hb:=bel_put (bel_put (bel_put (bel_put (bel_put (bel_put (bo3) (b:=w.heap.size) (Nat.le_refl _) (Nat.le_refl _) 0 (.int .i64 0)) (b:=w.heap.size) (Nat.le_refl _) (Nat.le_refl _) 1 (.string ⟨#[]⟩)) (b:=w.heap.size) (Nat.le_refl _) (Nat.le_refl _) 2 (.int .i64 0)) (b:=w.heap.size) (Nat.le_refl _) (Nat.le_refl _) 3 (.bool false)) (b:=w.heap.size) (Nat.le_refl _) (Nat.le_refl _) 4 (.slice none 0 0)) (b:=w.heap.size) (Nat.le_refl _) (Nat.le_refl _) 5 (.slice none 0 0)
 generalize ((((((w3.setCell ⟨w.heap.size,0,none⟩ (.int .i64 0)).setCell ⟨w.heap.size,1,none⟩ (.string ⟨#[]⟩)).setCell ⟨w.heap.size,2,none⟩ (.int .i64 0)).setCell ⟨w.heap.size,3,none⟩ (.bool false)).setCell ⟨w.heap.size,4,none⟩ (.slice none 0 0)).setCell ⟨w.heap.size,5,none⟩ (.slice none 0 0)) = wf at *
 refine bodyPost_ret (by simp [results,Tryz.results14,go_sem,f0,f1,f2,f3,f4,f5]; try rfl) rfl ?_
 exact ⟨_,_,_,_,_,_,_,_,_,_,rfl,(fun e => absurd e (by decide)),hb⟩
set_option maxRecDepth 100000 in
set_option maxHeartbeats 16000000 in
theorem one_KE (s:ByteArray) (i:Nat) (w:World) (hs:s.size ≤ 65536) (hi:i < s.size) (hL:ltrN (byA s i) = false) (hD:dgtN (byA s i) = false) (h91:byA s i = 91) (n:Nat) (hn:nuE s i - i = n) (hn2:i + n ≤ s.size) (hz:0 < n) (he:s.size ≤ i + n) :
  Calls Tryz.prog 14 #[.string s,.int .i64 (i:Nat)] w fun e w' => OnA w w' 0 (s.extract i (i + n)) i e:=by
 obtain ⟨wo,hwo⟩:∃ x,w.alloc (.cells #[.int .i64 0,.string ⟨#[]⟩,.int .i64 0,.bool false,.slice none 0 0,.slice none 0 0] 47) = x:=⟨_,rfl⟩
 have bo:Below w.heap.size w wo:=by rw [← hwo]; exact bAl
 have bO:BoxL wo w.heap.size [.int .i64 0,.string ⟨#[]⟩,.int .i64 0,.bool false,.slice none 0 0,.slice none 0 0]:=by have:=BoxL.made w #[.int .i64 0,.string ⟨#[]⟩,.int .i64 0,.bool false,.slice none 0 0,.slice none 0 0] 47; rw [hwo] at this; exact this
 have e1:=byA_get s i hi
 have e2:(s[i]'hi).toNat = byA s i:=by omega
 have KL:=w4letter_any (s[i]'hi).toNat wo
 have KD:=w4digit_any (s[i]'hi).toNat wo
 rw [show ltrN (s[i]'hi).toNat = false by rw [e2]; exact hL] at KL
 rw [show dgtN (s[i]'hi).toNat = false by rw [e2]; exact hD] at KD
 have HL:=Hj KL
 have HD:=Hj KD
 have KN:=n4_any s i wo hs hi
 rw [hn] at KN
 have HN:=Hj KN
 have ti:(i:Int) < (s.size:Int):=by omega
 have tn:(i:Int) + (n:Int) ≤ (s.size:Int):=by omega
 have t91:(((s[i]'hi).toNat:Int) == 91) = true:=by simp; omega
 have tz:((n:Int) == 0) = false:=by simp; omega
 have te:¬ (i:Int) + (n:Int) < (s.size:Int):=by omega
 have HB:=Hj (And.intro bO bo)
 clear KL KD KN bO bo e1 e2 hn
 go_enter Tryz.func14,Tryz.ntmps14
 go_wp2_with fail
 refine (Uh HL).mono ?_
 rintro _ _ ⟨rfl,hw⟩
 obtain rfl:=hw.symm
 clear hw HL
 go_wp2_with fail
 refine (Uh HD).mono ?_
 rintro _ _ ⟨rfl,hw⟩
 obtain rfl:=hw.symm
 clear hw HD
 go_wp2_with fail
 refine (Uh HN).mono ?_
 rintro _ w2 ⟨rg,aN,mN,cN,aD,mD,cD,rfl,b2⟩
 clear HN
 try dsimp only
 repeat ((fail_if_success (with_reducible (show Code.wp _ _ _ _ (World.alloc w2 _)))); (first | go_values | go_skip | go_guarded | go_step | go_upon | go_back))
 have bO2:=(Uh HB).1.below b2
 have bo2:=(Uh HB).2.trans (b2.mono (Uh HB).2.size)
 have b3:Below w2.heap.size w2 (w2.alloc (.cells #[.bool rg,.slice aN mN cN,.slice aD mD cD] 39)):=bAl
 have bV:=BoxL.made w2 #[.bool rg,.slice aN mN cN,.slice aD mD cD] 39
 have bO3:=bO2.below b3
 have bo3:=bo2.trans (b3.mono bo2.size)
 generalize w2.alloc (.cells #[.bool rg,.slice aN mN cN,.slice aD mD cD] 39) = w3 at *
 have v0:=(bV.all 0 _ rfl).1
 have v1:=(bV.all 1 _ rfl).1
 have v2:=(bV.all 2 _ rfl).1
 have o0:=(bO3.all 0 _ rfl).1
 have o0f:=(bO3.all 0 _ rfl).2
 have o1:=(bO3.all 1 _ rfl).1
 have o1f:=(bO3.all 1 _ rfl).2
 have o2:=(bO3.all 2 _ rfl).1
 have o2f:=(bO3.all 2 _ rfl).2
 have o3:=(bO3.all 3 _ rfl).1
 have o3f:=(bO3.all 3 _ rfl).2
 have o4:=(bO3.all 4 _ rfl).1
 have o4f:=(bO3.all 4 _ rfl).2
 have o5:=(bO3.all 5 _ rfl).1
 have o5f:=(bO3.all 5 _ rfl).2
 have HB3:=Hj (And.intro bO3 bo3)
 clear bO2 bo2 b3 bV bO3 bo3 b2 HB
 go_wp2_with fail
 go_region
 all_goals go_wp2_with fail
 obtain ⟨bO3,bo3⟩:=Uh HB3
 have hf:=((((((bO3).put 0 (.int .i64 3)).put 1 (.string (s.extract i (i + n)))).put 2 (.int .i64 (i:Int))).put 3 (.bool rg)).put 4 (.slice aN mN cN)).put 5 (.slice aD mD cD)
 have hf:=hf.below ((Below.refl _ _).drew)
 have f0:=(hf.all 0 _ rfl).1
 have f1:=(hf.all 1 _ rfl).1
 have f2:=(hf.all 2 _ rfl).1
 have f3:=(hf.all 3 _ rfl).1
 have f4:=(hf.all 4 _ rfl).1
 have f5:=(hf.all 5 _ rfl).1
 have hb:=bel_put (bel_put (bel_put (bel_put (bel_put (bel_put (bo3) (b:=w.heap.size) (Nat.le_refl _) (Nat.le_refl _) 0 (.int .i64 3)) (b:=w.heap.size) (Nat.le_refl _) (Nat.le_refl _) 1 (.string (s.extract i (i + n)))) (b:=w.heap.size) (Nat.le_refl _) (Nat.le_refl _) 2 (.int .i64 (i:Int))) (b:=w.heap.size) (Nat.le_refl _) (Nat.le_refl _) 3 (.bool rg)) (b:=w.heap.size) (Nat.le_refl _) (Nat.le_refl _) 4 (.slice aN mN cN)) (b:=w.heap.size) (Nat.le_refl _) (Nat.le_refl _) 5 (.slice aD mD cD)
 have hb:=hb.drew
 generalize ((((((w3.setCell ⟨w.heap.size,0,none⟩ (.int .i64 3)).setCell ⟨w.heap.size,1,none⟩ (.string (s.extract i (i + n)))).setCell ⟨w.heap.size,2,none⟩ (.int .i64 (i:Int))).setCell ⟨w.heap.size,3,none⟩ (.bool rg)).setCell ⟨w.heap.size,4,none⟩ (.slice aN mN cN)).setCell ⟨w.heap.size,5,none⟩ (.slice aD mD cD)).drew = wf at *
 refine bodyPost_ret (by simp [results,Tryz.results14,go_sem,f0,f1,f2,f3,f4,f5]; try rfl) rfl ?_
 exact ⟨_,_,_,_,_,_,_,_,_,_,rfl,(fun _ => ⟨rfl,rfl⟩),hb⟩
set_option maxRecDepth 100000 in
set_option maxHeartbeats 16000000 in
theorem one_KL (s:ByteArray) (i:Nat) (w:World) (hs:s.size ≤ 65536) (hi:i < s.size) (hL:ltrN (byA s i) = false) (hD:dgtN (byA s i) = false) (h91:byA s i = 91) (n:Nat) (hn:nuE s i - i = n) (hn2:i + n ≤ s.size) (hz:0 < n) (he:i + n < s.size) (hl:ltrN (byA s (i + n)) = true) :
  Calls Tryz.prog 14 #[.string s,.int .i64 (i:Nat)] w fun e w' => OnA w w' 81 (s.extract i (i + n)) i e:=by
 obtain ⟨wo,hwo⟩:∃ x,w.alloc (.cells #[.int .i64 0,.string ⟨#[]⟩,.int .i64 0,.bool false,.slice none 0 0,.slice none 0 0] 47) = x:=⟨_,rfl⟩
 have bo:Below w.heap.size w wo:=by rw [← hwo]; exact bAl
 have bO:BoxL wo w.heap.size [.int .i64 0,.string ⟨#[]⟩,.int .i64 0,.bool false,.slice none 0 0,.slice none 0 0]:=by have:=BoxL.made w #[.int .i64 0,.string ⟨#[]⟩,.int .i64 0,.bool false,.slice none 0 0,.slice none 0 0] 47; rw [hwo] at this; exact this
 have e1:=byA_get s i hi
 have e2:(s[i]'hi).toNat = byA s i:=by omega
 have KL:=w4letter_any (s[i]'hi).toNat wo
 have KD:=w4digit_any (s[i]'hi).toNat wo
 rw [show ltrN (s[i]'hi).toNat = false by rw [e2]; exact hL] at KL
 rw [show dgtN (s[i]'hi).toNat = false by rw [e2]; exact hD] at KD
 have HL:=Hj KL
 have HD:=Hj KD
 have KN:=n4_any s i wo hs hi
 rw [hn] at KN
 have HN:=Hj KN
 have ti:(i:Int) < (s.size:Int):=by omega
 have tn:(i:Int) + (n:Int) ≤ (s.size:Int):=by omega
 have t91:(((s[i]'hi).toNat:Int) == 91) = true:=by simp; omega
 have tz:((n:Int) == 0) = false:=by simp; omega
 have te:(i:Int) + (n:Int) < (s.size:Int):=by omega
 have g1:=byA_get s (i + n) he
 have g2:(s[i + n]'he).toNat = byA s (i + n):=by omega
 have KM:=Hj (fun (W:World) => w4letter_any (s[i + n]'he).toNat W)
 rw [show ltrN (s[i + n]'he).toNat = true by rw [g2]; exact hl] at KM
 have HB:=Hj (And.intro bO bo)
 clear KL KD KN bO bo e1 e2 hn g1 g2
 go_enter Tryz.func14,Tryz.ntmps14
 go_wp2_with fail
 refine (Uh HL).mono ?_
 rintro _ _ ⟨rfl,hw⟩
 obtain rfl:=hw.symm
 clear hw HL
 go_wp2_with fail
 refine (Uh HD).mono ?_
 rintro _ _ ⟨rfl,hw⟩
 obtain rfl:=hw.symm
 clear hw HD
 go_wp2_with fail
 refine (Uh HN).mono ?_
 rintro _ w2 ⟨rg,aN,mN,cN,aD,mD,cD,rfl,b2⟩
 clear HN
 try dsimp only
 repeat ((fail_if_success (with_reducible (show Code.wp _ _ _ _ (World.alloc w2 _)))); (first | go_values | go_skip | go_guarded | go_step | go_upon | go_back))
 have bO2:=(Uh HB).1.below b2
 have bo2:=(Uh HB).2.trans (b2.mono (Uh HB).2.size)
 have b3:Below w2.heap.size w2 (w2.alloc (.cells #[.bool rg,.slice aN mN cN,.slice aD mD cD] 39)):=bAl
 have bV:=BoxL.made w2 #[.bool rg,.slice aN mN cN,.slice aD mD cD] 39
 have bO3:=bO2.below b3
 have bo3:=bo2.trans (b3.mono bo2.size)
 generalize w2.alloc (.cells #[.bool rg,.slice aN mN cN,.slice aD mD cD] 39) = w3 at *
 have v0:=(bV.all 0 _ rfl).1
 have v1:=(bV.all 1 _ rfl).1
 have v2:=(bV.all 2 _ rfl).1
 have o0:=(bO3.all 0 _ rfl).1
 have o0f:=(bO3.all 0 _ rfl).2
 have o1:=(bO3.all 1 _ rfl).1
 have o1f:=(bO3.all 1 _ rfl).2
 have o2:=(bO3.all 2 _ rfl).1
 have o2f:=(bO3.all 2 _ rfl).2
 have o3:=(bO3.all 3 _ rfl).1
 have o3f:=(bO3.all 3 _ rfl).2
 have o4:=(bO3.all 4 _ rfl).1
 have o4f:=(bO3.all 4 _ rfl).2
 have o5:=(bO3.all 5 _ rfl).1
 have o5f:=(bO3.all 5 _ rfl).2
 have HB3:=Hj (And.intro bO3 bo3)
 clear bO2 bo2 b3 bV bO3 bo3 b2 HB
 go_wp2_with fail
 refine (Uh KM _).mono ?_
 rintro _ _ ⟨rfl,hw⟩
 obtain rfl:=hw.symm
 clear hw KM
 go_wp2_with fail
 obtain ⟨bO3,bo3⟩:=Uh HB3
 have hf:=((((((bO3).put 0 (.int .i64 0)).put 1 (.string ⟨#[]⟩)).put 2 (.int .i64 0)).put 3 (.bool false)).put 4 (.slice none 0 0)).put 5 (.slice none 0 0)
 have f0:=(hf.all 0 _ rfl).1
 have f1:=(hf.all 1 _ rfl).1
 have f2:=(hf.all 2 _ rfl).1
 have f3:=(hf.all 3 _ rfl).1
 have f4:=(hf.all 4 _ rfl).1
 have f5:=(hf.all 5 _ rfl).1
 have hb:=bel_put (bel_put (bel_put (bel_put (bel_put (bel_put (bo3) (b:=w.heap.size) (Nat.le_refl _) (Nat.le_refl _) 0 (.int .i64 0)) (b:=w.heap.size) (Nat.le_refl _) (Nat.le_refl _) 1 (.string ⟨#[]⟩)) (b:=w.heap.size) (Nat.le_refl _) (Nat.le_refl _) 2 (.int .i64 0)) (b:=w.heap.size) (Nat.le_refl _) (Nat.le_refl _) 3 (.bool false)) (b:=w.heap.size) (Nat.le_refl _) (Nat.le_refl _) 4 (.slice none 0 0)) (b:=w.heap.size) (Nat.le_refl _) (Nat.le_refl _) 5 (.slice none 0 0)
 generalize ((((((w3.setCell ⟨w.heap.size,0,none⟩ (.int .i64 0)).setCell ⟨w.heap.size,1,none⟩ (.string ⟨#[]⟩)).setCell ⟨w.heap.size,2,none⟩ (.int .i64 0)).setCell ⟨w.heap.size,3,none⟩ (.bool false)).setCell ⟨w.heap.size,4,none⟩ (.slice none 0 0)).setCell ⟨w.heap.size,5,none⟩ (.slice none 0 0)) = wf at *
 refine bodyPost_ret (by simp [results,Tryz.results14,go_sem,f0,f1,f2,f3,f4,f5]; try rfl) rfl ?_
 exact ⟨_,_,_,_,_,_,_,_,_,_,rfl,(fun e => absurd e (by decide)),hb⟩
set_option maxRecDepth 100000 in
set_option maxHeartbeats 16000000 in
theorem one_KD (s:ByteArray) (i:Nat) (w:World) (hs:s.size ≤ 65536) (hi:i < s.size) (hL:ltrN (byA s i) = false) (hD:dgtN (byA s i) = false) (h91:byA s i = 91) (n:Nat) (hn:nuE s i - i = n) (hn2:i + n ≤ s.size) (hz:0 < n) (he:i + n < s.size) (hl:ltrN (byA s (i + n)) = false) (hd:byA s (i + n) = 46) :
  Calls Tryz.prog 14 #[.string s,.int .i64 (i:Nat)] w fun e w' => OnA w w' 81 (s.extract i (i + n)) i e:=by
 obtain ⟨wo,hwo⟩:∃ x,w.alloc (.cells #[.int .i64 0,.string ⟨#[]⟩,.int .i64 0,.bool false,.slice none 0 0,.slice none 0 0] 47) = x:=⟨_,rfl⟩
 have bo:Below w.heap.size w wo:=by rw [← hwo]; exact bAl
 have bO:BoxL wo w.heap.size [.int .i64 0,.string ⟨#[]⟩,.int .i64 0,.bool false,.slice none 0 0,.slice none 0 0]:=by have:=BoxL.made w #[.int .i64 0,.string ⟨#[]⟩,.int .i64 0,.bool false,.slice none 0 0,.slice none 0 0] 47; rw [hwo] at this; exact this
 have e1:=byA_get s i hi
 have e2:(s[i]'hi).toNat = byA s i:=by omega
 have KL:=w4letter_any (s[i]'hi).toNat wo
 have KD:=w4digit_any (s[i]'hi).toNat wo
 rw [show ltrN (s[i]'hi).toNat = false by rw [e2]; exact hL] at KL
 rw [show dgtN (s[i]'hi).toNat = false by rw [e2]; exact hD] at KD
 have HL:=Hj KL
 have HD:=Hj KD
 have KN:=n4_any s i wo hs hi
 rw [hn] at KN
 have HN:=Hj KN
 have ti:(i:Int) < (s.size:Int):=by omega
 have tn:(i:Int) + (n:Int) ≤ (s.size:Int):=by omega
 have t91:(((s[i]'hi).toNat:Int) == 91) = true:=by simp; omega
 have tz:((n:Int) == 0) = false:=by simp; omega
 have te:(i:Int) + (n:Int) < (s.size:Int):=by omega
 have g1:=byA_get s (i + n) he
 have g2:(s[i + n]'he).toNat = byA s (i + n):=by omega
 have KM:=Hj (fun (W:World) => w4letter_any (s[i + n]'he).toNat W)
 rw [show ltrN (s[i + n]'he).toNat = false by rw [g2]; exact hl] at KM
 have t46:(((s[i + n]'he).toNat:Int) == 46) = true:=by simp; omega
 have HB:=Hj (And.intro bO bo)
 clear KL KD KN bO bo e1 e2 hn g1 g2
 go_enter Tryz.func14,Tryz.ntmps14
 go_wp2_with fail
 refine (Uh HL).mono ?_
 rintro _ _ ⟨rfl,hw⟩
 obtain rfl:=hw.symm
 clear hw HL
 go_wp2_with fail
 refine (Uh HD).mono ?_
 rintro _ _ ⟨rfl,hw⟩
 obtain rfl:=hw.symm
 clear hw HD
 go_wp2_with fail
 refine (Uh HN).mono ?_
 rintro _ w2 ⟨rg,aN,mN,cN,aD,mD,cD,rfl,b2⟩
 clear HN
 try dsimp only
 repeat ((fail_if_success (with_reducible (show Code.wp _ _ _ _ (World.alloc w2 _)))); (first | go_values | go_skip | go_guarded | go_step | go_upon | go_back))
 have bO2:=(Uh HB).1.below b2
 have bo2:=(Uh HB).2.trans (b2.mono (Uh HB).2.size)
 have b3:Below w2.heap.size w2 (w2.alloc (.cells #[.bool rg,.slice aN mN cN,.slice aD mD cD] 39)):=bAl
 have bV:=BoxL.made w2 #[.bool rg,.slice aN mN cN,.slice aD mD cD] 39
 have bO3:=bO2.below b3
 have bo3:=bo2.trans (b3.mono bo2.size)
 generalize w2.alloc (.cells #[.bool rg,.slice aN mN cN,.slice aD mD cD] 39) = w3 at *
 have v0:=(bV.all 0 _ rfl).1
 have v1:=(bV.all 1 _ rfl).1
 have v2:=(bV.all 2 _ rfl).1
 have o0:=(bO3.all 0 _ rfl).1
 have o0f:=(bO3.all 0 _ rfl).2
 have o1:=(bO3.all 1 _ rfl).1
 have o1f:=(bO3.all 1 _ rfl).2
 have o2:=(bO3.all 2 _ rfl).1
 have o2f:=(bO3.all 2 _ rfl).2
 have o3:=(bO3.all 3 _ rfl).1
 have o3f:=(bO3.all 3 _ rfl).2
 have o4:=(bO3.all 4 _ rfl).1
 have o4f:=(bO3.all 4 _ rfl).2
 have o5:=(bO3.all 5 _ rfl).1
 have o5f:=(bO3.all 5 _ rfl).2
 have HB3:=Hj (And.intro bO3 bo3)
 clear bO2 bo2 b3 bV bO3 bo3 b2 HB
 go_wp2_with fail
 refine (Uh KM _).mono ?_
 rintro _ _ ⟨rfl,hw⟩
 obtain rfl:=hw.symm
 clear hw KM
 go_wp2_with fail
 obtain ⟨bO3,bo3⟩:=Uh HB3
 have hf:=((((((bO3).put 0 (.int .i64 0)).put 1 (.string ⟨#[]⟩)).put 2 (.int .i64 0)).put 3 (.bool false)).put 4 (.slice none 0 0)).put 5 (.slice none 0 0)
 have f0:=(hf.all 0 _ rfl).1
 have f1:=(hf.all 1 _ rfl).1
 have f2:=(hf.all 2 _ rfl).1
 have f3:=(hf.all 3 _ rfl).1
 have f4:=(hf.all 4 _ rfl).1
 have f5:=(hf.all 5 _ rfl).1
 have hb:=bel_put (bel_put (bel_put (bel_put (bel_put (bel_put (bo3) (b:=w.heap.size) (Nat.le_refl _) (Nat.le_refl _) 0 (.int .i64 0)) (b:=w.heap.size) (Nat.le_refl _) (Nat.le_refl _) 1 (.string ⟨#[]⟩)) (b:=w.heap.size) (Nat.le_refl _) (Nat.le_refl _) 2 (.int .i64 0)) (b:=w.heap.size) (Nat.le_refl _) (Nat.le_refl _) 3 (.bool false)) (b:=w.heap.size) (Nat.le_refl _) (Nat.le_refl _) 4 (.slice none 0 0)) (b:=w.heap.size) (Nat.le_refl _) (Nat.le_refl _) 5 (.slice none 0 0)
 generalize ((((((w3.setCell ⟨w.heap.size,0,none⟩ (.int .i64 0)).setCell ⟨w.heap.size,1,none⟩ (.string ⟨#[]⟩)).setCell ⟨w.heap.size,2,none⟩ (.int .i64 0)).setCell ⟨w.heap.size,3,none⟩ (.bool false)).setCell ⟨w.heap.size,4,none⟩ (.slice none 0 0)).setCell ⟨w.heap.size,5,none⟩ (.slice none 0 0)) = wf at *
 refine bodyPost_ret (by simp [results,Tryz.results14,go_sem,f0,f1,f2,f3,f4,f5]; try rfl) rfl ?_
 exact ⟨_,_,_,_,_,_,_,_,_,_,rfl,(fun e => absurd e (by decide)),hb⟩
set_option maxRecDepth 100000 in
set_option maxHeartbeats 16000000 in
theorem one_KO (s:ByteArray) (i:Nat) (w:World) (hs:s.size ≤ 65536) (hi:i < s.size) (hL:ltrN (byA s i) = false) (hD:dgtN (byA s i) = false) (h91:byA s i = 91) (n:Nat) (hn:nuE s i - i = n) (hn2:i + n ≤ s.size) (hz:0 < n) (he:i + n < s.size) (hl:ltrN (byA s (i + n)) = false) (hd:byA s (i + n) ≠ 46) :
  Calls Tryz.prog 14 #[.string s,.int .i64 (i:Nat)] w fun e w' => OnA w w' 0 (s.extract i (i + n)) i e:=by
 obtain ⟨wo,hwo⟩:∃ x,w.alloc (.cells #[.int .i64 0,.string ⟨#[]⟩,.int .i64 0,.bool false,.slice none 0 0,.slice none 0 0] 47) = x:=⟨_,rfl⟩
 have bo:Below w.heap.size w wo:=by rw [← hwo]; exact bAl
 have bO:BoxL wo w.heap.size [.int .i64 0,.string ⟨#[]⟩,.int .i64 0,.bool false,.slice none 0 0,.slice none 0 0]:=by have:=BoxL.made w #[.int .i64 0,.string ⟨#[]⟩,.int .i64 0,.bool false,.slice none 0 0,.slice none 0 0] 47; rw [hwo] at this; exact this
 have e1:=byA_get s i hi
 have e2:(s[i]'hi).toNat = byA s i:=by omega
 have KL:=w4letter_any (s[i]'hi).toNat wo
 have KD:=w4digit_any (s[i]'hi).toNat wo
 rw [show ltrN (s[i]'hi).toNat = false by rw [e2]; exact hL] at KL
 rw [show dgtN (s[i]'hi).toNat = false by rw [e2]; exact hD] at KD
 have HL:=Hj KL
 have HD:=Hj KD
 have KN:=n4_any s i wo hs hi
 rw [hn] at KN
 have HN:=Hj KN
 have ti:(i:Int) < (s.size:Int):=by omega
 have tn:(i:Int) + (n:Int) ≤ (s.size:Int):=by omega
 have t91:(((s[i]'hi).toNat:Int) == 91) = true:=by simp; omega
 have tz:((n:Int) == 0) = false:=by simp; omega
 have te:(i:Int) + (n:Int) < (s.size:Int):=by omega
 have g1:=byA_get s (i + n) he
 have g2:(s[i + n]'he).toNat = byA s (i + n):=by omega
 have KM:=Hj (fun (W:World) => w4letter_any (s[i + n]'he).toNat W)
 rw [show ltrN (s[i + n]'he).toNat = false by rw [g2]; exact hl] at KM
 have t46:(((s[i + n]'he).toNat:Int) == 46) = false:=by simp; omega
 have HB:=Hj (And.intro bO bo)
 clear KL KD KN bO bo e1 e2 hn g1 g2
 go_enter Tryz.func14,Tryz.ntmps14
 go_wp2_with fail
 refine (Uh HL).mono ?_
 rintro _ _ ⟨rfl,hw⟩
 obtain rfl:=hw.symm
 clear hw HL
 go_wp2_with fail
 refine (Uh HD).mono ?_
 rintro _ _ ⟨rfl,hw⟩
 obtain rfl:=hw.symm
 clear hw HD
 go_wp2_with fail
 refine (Uh HN).mono ?_
 rintro _ w2 ⟨rg,aN,mN,cN,aD,mD,cD,rfl,b2⟩
 clear HN
 try dsimp only
 repeat ((fail_if_success (with_reducible (show Code.wp _ _ _ _ (World.alloc w2 _)))); (first | go_values | go_skip | go_guarded | go_step | go_upon | go_back))
 have bO2:=(Uh HB).1.below b2
 have bo2:=(Uh HB).2.trans (b2.mono (Uh HB).2.size)
 have b3:Below w2.heap.size w2 (w2.alloc (.cells #[.bool rg,.slice aN mN cN,.slice aD mD cD] 39)):=bAl
 have bV:=BoxL.made w2 #[.bool rg,.slice aN mN cN,.slice aD mD cD] 39
 have bO3:=bO2.below b3
 have bo3:=bo2.trans (b3.mono bo2.size)
 generalize w2.alloc (.cells #[.bool rg,.slice aN mN cN,.slice aD mD cD] 39) = w3 at *
 have v0:=(bV.all 0 _ rfl).1
 have v1:=(bV.all 1 _ rfl).1
 have v2:=(bV.all 2 _ rfl).1
 have o0:=(bO3.all 0 _ rfl).1
 have o0f:=(bO3.all 0 _ rfl).2
 have o1:=(bO3.all 1 _ rfl).1
 have o1f:=(bO3.all 1 _ rfl).2
 have o2:=(bO3.all 2 _ rfl).1
 have o2f:=(bO3.all 2 _ rfl).2
 have o3:=(bO3.all 3 _ rfl).1
 have o3f:=(bO3.all 3 _ rfl).2
 have o4:=(bO3.all 4 _ rfl).1
 have o4f:=(bO3.all 4 _ rfl).2
 have o5:=(bO3.all 5 _ rfl).1
 have o5f:=(bO3.all 5 _ rfl).2
 have HB3:=Hj (And.intro bO3 bo3)
 clear bO2 bo2 b3 bV bO3 bo3 b2 HB
 go_wp2_with fail
 refine (Uh KM _).mono ?_
 rintro _ _ ⟨rfl,hw⟩
 obtain rfl:=hw.symm
 clear hw KM
 go_wp2_with fail
 go_region
 all_goals go_wp2_with fail
 obtain ⟨bO3,bo3⟩:=Uh HB3
 have hf:=((((((bO3).put 0 (.int .i64 3)).put 1 (.string (s.extract i (i + n)))).put 2 (.int .i64 (i:Int))).put 3 (.bool rg)).put 4 (.slice aN mN cN)).put 5 (.slice aD mD cD)
 have hf:=hf.below ((Below.refl _ _).drew)
 have f0:=(hf.all 0 _ rfl).1
 have f1:=(hf.all 1 _ rfl).1
 have f2:=(hf.all 2 _ rfl).1
 have f3:=(hf.all 3 _ rfl).1
 have f4:=(hf.all 4 _ rfl).1
 have f5:=(hf.all 5 _ rfl).1
 have hb:=bel_put (bel_put (bel_put (bel_put (bel_put (bel_put (bo3) (b:=w.heap.size) (Nat.le_refl _) (Nat.le_refl _) 0 (.int .i64 3)) (b:=w.heap.size) (Nat.le_refl _) (Nat.le_refl _) 1 (.string (s.extract i (i + n)))) (b:=w.heap.size) (Nat.le_refl _) (Nat.le_refl _) 2 (.int .i64 (i:Int))) (b:=w.heap.size) (Nat.le_refl _) (Nat.le_refl _) 3 (.bool rg)) (b:=w.heap.size) (Nat.le_refl _) (Nat.le_refl _) 4 (.slice aN mN cN)) (b:=w.heap.size) (Nat.le_refl _) (Nat.le_refl _) 5 (.slice aD mD cD)
 have hb:=hb.drew
 generalize ((((((w3.setCell ⟨w.heap.size,0,none⟩ (.int .i64 3)).setCell ⟨w.heap.size,1,none⟩ (.string (s.extract i (i + n)))).setCell ⟨w.heap.size,2,none⟩ (.int .i64 (i:Int))).setCell ⟨w.heap.size,3,none⟩ (.bool rg)).setCell ⟨w.heap.size,4,none⟩ (.slice aN mN cN)).setCell ⟨w.heap.size,5,none⟩ (.slice aD mD cD)).drew = wf at *
 refine bodyPost_ret (by simp [results,Tryz.results14,go_sem,f0,f1,f2,f3,f4,f5]; try rfl) rfl ?_
 exact ⟨_,_,_,_,_,_,_,_,_,_,rfl,(fun _ => ⟨rfl,rfl⟩),hb⟩
end Go.Proofs.YtjoaijbhpgekoaaGreatDoor
