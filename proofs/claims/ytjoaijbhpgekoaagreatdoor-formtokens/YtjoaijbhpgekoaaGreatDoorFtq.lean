/- Ftq -/
import Derived.Test.YtjoaijbhpgekoaaGreatDoorFtp
namespace Go.Proofs.YtjoaijbhpgekoaaGreatDoor
open Go.RowKit Go.Deep
set_option linter.unusedVariables false
set_option maxRecDepth 100000 in
set_option maxHeartbeats 16000000 in
theorem one_big (s:ByteArray) (i:Nat) (w:World) (hs:s.size ≤ 65536) (hi:i < s.size) (hL:ltrN (byA s i) = true) (n:Nat) (hn:enR wrdN s i = i + n) (hb:31 < n) :
  Calls Tryz.prog 14 #[.string s,.int .i64 (i:Nat)] w fun e w' => OnA w w' 87 (s.extract i (i + n)) i e:=by
 have hr:=enR_run wrdN s (i:=i) (by omega)
 rw [hn] at hr
 have hj:=hr.top
 have HR:=Hj hr
 obtain ⟨wo,hwo⟩:∃ x,w.alloc (.cells #[.int .i64 0,.string ⟨#[]⟩,.int .i64 0,.bool false,.slice none 0 0,.slice none 0 0] 47) = x:=⟨_,rfl⟩
 have bo:Below w.heap.size w wo:=by rw [← hwo]; exact bAl
 have bO:BoxL wo w.heap.size [.int .i64 0,.string ⟨#[]⟩,.int .i64 0,.bool false,.slice none 0 0,.slice none 0 0]:=by have:=BoxL.made w #[.int .i64 0,.string ⟨#[]⟩,.int .i64 0,.bool false,.slice none 0 0,.slice none 0 0] 47; rw [hwo] at this; exact this
 have e1:=byA_get s i hi
 have e2:(s[i]'hi).toNat = byA s i:=by omega
 have KL:=w4letter_any (s[i]'hi).toNat wo
 rw [show ltrN (s[i]'hi).toNat = true by rw [e2]; exact hL] at KL
 have HL:=Hj KL
 have ti:(i:Int) < (s.size:Int):=by omega
 have tin:(i:Int) + (n:Int) ≤ (s.size:Int):=by omega
 have tb:(31:Int) < (n:Int):=by omega
 obtain ⟨wt,hwt⟩:∃ x,wo.alloc (.cells #[.int .i64 1,.string (s.extract i (i + n)),.int .i64 (i:Int),.bool false,.slice none 0 0,.slice none 0 0] 47) = x:=⟨_,rfl⟩
 have bt:Below wo.heap.size wo wt:=by rw [← hwt]; exact bAl
 have bT:BoxL wt wo.heap.size [.int .i64 1,.string (s.extract i (i + n)),.int .i64 (i:Int),.bool false,.slice none 0 0,.slice none 0 0]:=by have:=BoxL.made wo #[.int .i64 1,.string (s.extract i (i + n)),.int .i64 (i:Int),.bool false,.slice none 0 0,.slice none 0 0] 47; rw [hwt] at this; exact this
 have bO2:=bO.below bt
 have hzo:wo.heap.size = w.heap.size + 1:=by rw [← hwo]; simp
 have HWT:=Hj hwt
 have HB:=Hj (And.intro bO2 (And.intro (bo.trans (bt.mono bo.size)) (And.intro bT hzo)))
 clear hwt
 clear KL bO bo e1 e2 hn hr bO2 bT bt hzo
 go_enter Tryz.func14,Tryz.ntmps14
 go_wp2_with fail
 refine (Uh HL).mono ?_
 rintro _ _ ⟨rfl,hw⟩
 obtain rfl:=hw.symm
 clear hw HL
 go_wp2_with fail
 go_loopw [7] (fun iv wr => ∃ q:Nat,q ≤ n ∧ iv = .int .i64 (q:Nat) ∧ Hid (wr = wo)) (fun iv _ => s.size - (intOf iv).toNat)
 case atStart => exact ⟨0,Nat.zero_le _,rfl,rfl⟩
 case round =>
  obtain ⟨q,h1,rfl,HW⟩:=hrel
  obtain rfl:=(Uh HW).symm
  clear HW
  by_cases hq:q < n
  ·have hlt:i + q < s.size:=by omega
   have hlt':(i:Int) + (q:Int) < (s.size:Int):=by omega
   have e:=byA_get s (i + q) hlt
   have e2:(s[(i + q)]'hlt).toNat = byA s (i + q):=by omega
   have KL:=w4letter_any (s[(i + q)]'hlt).toNat wo
   have KD:=w4digit_any (s[(i + q)]'hlt).toNat wo
   have hv:=(Uh HR).all (i + q) (by omega) (by omega)
   rw [← e2] at hv
   unfold wrdN at hv
   have HD:=Hj KD
   clear KD e
   by_cases hL:ltrN (s[(i + q)]'hlt).toNat = true
   ·rw [hL] at KL
    have HL:=Hj KL
    clear KL hv e2 HD
    go_wp2_with fail
    refine (Uh HL).mono ?_
    rintro _ _ ⟨rfl,hw⟩
    obtain rfl:=hw.symm
    clear hw HL
    go_wp2_with fail
    exact ⟨⟨q + 1,by omega,by (first | rfl | go_num),Hj trivial⟩,by simp [intOf]; omega⟩
   ·have hL2:ltrN (s[(i + q)]'hlt).toNat = false:=by simpa using hL
    rw [hL2] at KL
    have HL:=Hj KL
    have hD2:dgtN (s[(i + q)]'hlt).toNat = true:=by simpa [hL2] using hv
    rw [hD2] at HD
    clear KL hv e2 hL hL2 hD2
    go_wp2_with fail
    refine (Uh HL).mono ?_
    rintro _ _ ⟨rfl,hw⟩
    obtain rfl:=hw.symm
    clear hw HL
    go_wp2_with fail
    refine (Uh HD).mono ?_
    rintro _ _ ⟨rfl,hw⟩
    obtain rfl:=hw.symm
    clear hw HD
    go_wp2_with fail
    exact ⟨⟨q + 1,by omega,by (first | rfl | go_num),Hj trivial⟩,by simp [intOf]; omega⟩
  ·have hq2:q = n:=by omega
   subst hq2
   have HBW:=Hj (show True from trivial)
   by_cases hlt:i + q < s.size
   ·have hlt':(i:Int) + (q:Int) < (s.size:Int):=by omega
    have e:=byA_get s (i + q) hlt
    have e2:(s[(i + q)]'hlt).toNat = byA s (i + q):=by omega
    have KL:=w4letter_any (s[(i + q)]'hlt).toNat wo
    have KD:=w4digit_any (s[(i + q)]'hlt).toNat wo
    have hv:=(Uh HR).stop hlt
    rw [← e2] at hv
    unfold wrdN at hv
    have hL2:ltrN (s[(i + q)]'hlt).toNat = false:=by simp at hv; exact hv.1
    have hD2:dgtN (s[(i + q)]'hlt).toNat = false:=by simp at hv; exact hv.2
    rw [hL2] at KL
    rw [hD2] at KD
    have HL:=Hj KL
    have HD:=Hj KD
    clear KL KD hv e2 hL2 hD2 e
    go_wp2_with fail
    refine (Uh HL).mono ?_
    rintro _ _ ⟨rfl,hw⟩
    obtain rfl:=hw.symm
    clear hw HL
    go_wp2_with fail
    refine (Uh HD).mono ?_
    rintro _ _ ⟨rfl,hw⟩
    obtain rfl:=hw.symm
    clear hw HD
    try dsimp only
    repeat ((fail_if_success (with_reducible (show Code.wp _ _ _ _ (World.alloc wo _)))); (first | go_values | go_skip | go_guarded | go_step | go_upon | go_back))
    rw [Uh HWT]
    obtain ⟨bO2,bot,bT,hzo⟩:=Uh HB
    have p0:=(bT.all 0 _ rfl).1
    have p0f:=(bT.all 0 _ rfl).2
    have p1:=(bT.all 1 _ rfl).1
    have p1f:=(bT.all 1 _ rfl).2
    have p2:=(bT.all 2 _ rfl).1
    have p2f:=(bT.all 2 _ rfl).2
    have p3:=(bT.all 3 _ rfl).1
    have p3f:=(bT.all 3 _ rfl).2
    have p4:=(bT.all 4 _ rfl).1
    have p4f:=(bT.all 4 _ rfl).2
    have p5:=(bT.all 5 _ rfl).1
    have p5f:=(bT.all 5 _ rfl).2
    have o0:=(bO2.all 0 _ rfl).1
    have o0f:=(bO2.all 0 _ rfl).2
    have o1:=(bO2.all 1 _ rfl).1
    have o1f:=(bO2.all 1 _ rfl).2
    have o2:=(bO2.all 2 _ rfl).1
    have o2f:=(bO2.all 2 _ rfl).2
    have o3:=(bO2.all 3 _ rfl).1
    have o3f:=(bO2.all 3 _ rfl).2
    have o4:=(bO2.all 4 _ rfl).1
    have o4f:=(bO2.all 4 _ rfl).2
    have o5:=(bO2.all 5 _ rfl).1
    have o5f:=(bO2.all 5 _ rfl).2
    clear bO2 bot bT hzo
    go_wp2_with fail
    obtain ⟨bO2,bot,bT,hzo⟩:=Uh HB
    have hf:=((((((bO2).put 0 (.int .i64 1)).put 1 (.string (s.extract i (i + q)))).put 2 (.int .i64 (i:Int))).put 3 (.bool false)).put 4 (.slice none 0 0)).put 5 (.slice none 0 0)
    have f0:=(hf.all 0 _ rfl).1
    have f1:=(hf.all 1 _ rfl).1
    have f2:=(hf.all 2 _ rfl).1
    have f3:=(hf.all 3 _ rfl).1
    have f4:=(hf.all 4 _ rfl).1
    have f5:=(hf.all 5 _ rfl).1
    have hb:=bel_put (bel_put (bel_put (bel_put (bel_put (bel_put (bot) (b:=w.heap.size) (Nat.le_refl _) (Nat.le_refl _) 0 (.int .i64 1)) (b:=w.heap.size) (Nat.le_refl _) (Nat.le_refl _) 1 (.string (s.extract i (i + q)))) (b:=w.heap.size) (Nat.le_refl _) (Nat.le_refl _) 2 (.int .i64 (i:Int))) (b:=w.heap.size) (Nat.le_refl _) (Nat.le_refl _) 3 (.bool false)) (b:=w.heap.size) (Nat.le_refl _) (Nat.le_refl _) 4 (.slice none 0 0)) (b:=w.heap.size) (Nat.le_refl _) (Nat.le_refl _) 5 (.slice none 0 0)
    generalize ((((((wt.setCell ⟨w.heap.size,0,none⟩ (.int .i64 1)).setCell ⟨w.heap.size,1,none⟩ (.string (s.extract i (i + q)))).setCell ⟨w.heap.size,2,none⟩ (.int .i64 (i:Int))).setCell ⟨w.heap.size,3,none⟩ (.bool false)).setCell ⟨w.heap.size,4,none⟩ (.slice none 0 0)).setCell ⟨w.heap.size,5,none⟩ (.slice none 0 0)) = wf at *
    refine bodyPost_ret (by simp [results,Tryz.results14,go_sem,f0,f1,f2,f3,f4,f5]; try rfl) rfl ?_
    exact ⟨_,_,_,_,_,_,_,_,_,_,rfl,(fun e => absurd e (by decide)),hb⟩
   ·have hlt':¬ (i:Int) + (q:Int) < (s.size:Int):=by omega
    try dsimp only
    repeat ((fail_if_success (with_reducible (show Code.wp _ _ _ _ (World.alloc wo _)))); (first | go_values | go_skip | go_guarded | go_step | go_upon | go_back))
    rw [Uh HWT]
    obtain ⟨bO2,bot,bT,hzo⟩:=Uh HB
    have p0:=(bT.all 0 _ rfl).1
    have p0f:=(bT.all 0 _ rfl).2
    have p1:=(bT.all 1 _ rfl).1
    have p1f:=(bT.all 1 _ rfl).2
    have p2:=(bT.all 2 _ rfl).1
    have p2f:=(bT.all 2 _ rfl).2
    have p3:=(bT.all 3 _ rfl).1
    have p3f:=(bT.all 3 _ rfl).2
    have p4:=(bT.all 4 _ rfl).1
    have p4f:=(bT.all 4 _ rfl).2
    have p5:=(bT.all 5 _ rfl).1
    have p5f:=(bT.all 5 _ rfl).2
    have o0:=(bO2.all 0 _ rfl).1
    have o0f:=(bO2.all 0 _ rfl).2
    have o1:=(bO2.all 1 _ rfl).1
    have o1f:=(bO2.all 1 _ rfl).2
    have o2:=(bO2.all 2 _ rfl).1
    have o2f:=(bO2.all 2 _ rfl).2
    have o3:=(bO2.all 3 _ rfl).1
    have o3f:=(bO2.all 3 _ rfl).2
    have o4:=(bO2.all 4 _ rfl).1
    have o4f:=(bO2.all 4 _ rfl).2
    have o5:=(bO2.all 5 _ rfl).1
    have o5f:=(bO2.all 5 _ rfl).2
    clear bO2 bot bT hzo
    go_wp2_with fail
    obtain ⟨bO2,bot,bT,hzo⟩:=Uh HB
    have hf:=((((((bO2).put 0 (.int .i64 1)).put 1 (.string (s.extract i (i + q)))).put 2 (.int .i64 (i:Int))).put 3 (.bool false)).put 4 (.slice none 0 0)).put 5 (.slice none 0 0)
    have f0:=(hf.all 0 _ rfl).1
    have f1:=(hf.all 1 _ rfl).1
    have f2:=(hf.all 2 _ rfl).1
    have f3:=(hf.all 3 _ rfl).1
    have f4:=(hf.all 4 _ rfl).1
    have f5:=(hf.all 5 _ rfl).1
    have hb:=bel_put (bel_put (bel_put (bel_put (bel_put (bel_put (bot) (b:=w.heap.size) (Nat.le_refl _) (Nat.le_refl _) 0 (.int .i64 1)) (b:=w.heap.size) (Nat.le_refl _) (Nat.le_refl _) 1 (.string (s.extract i (i + q)))) (b:=w.heap.size) (Nat.le_refl _) (Nat.le_refl _) 2 (.int .i64 (i:Int))) (b:=w.heap.size) (Nat.le_refl _) (Nat.le_refl _) 3 (.bool false)) (b:=w.heap.size) (Nat.le_refl _) (Nat.le_refl _) 4 (.slice none 0 0)) (b:=w.heap.size) (Nat.le_refl _) (Nat.le_refl _) 5 (.slice none 0 0)
    generalize ((((((wt.setCell ⟨w.heap.size,0,none⟩ (.int .i64 1)).setCell ⟨w.heap.size,1,none⟩ (.string (s.extract i (i + q)))).setCell ⟨w.heap.size,2,none⟩ (.int .i64 (i:Int))).setCell ⟨w.heap.size,3,none⟩ (.bool false)).setCell ⟨w.heap.size,4,none⟩ (.slice none 0 0)).setCell ⟨w.heap.size,5,none⟩ (.slice none 0 0)) = wf at *
    refine bodyPost_ret (by simp [results,Tryz.results14,go_sem,f0,f1,f2,f3,f4,f5]; try rfl) rfl ?_
    exact ⟨_,_,_,_,_,_,_,_,_,_,rfl,(fun e => absurd e (by decide)),hb⟩
set_option maxRecDepth 100000 in
set_option maxHeartbeats 16000000 in
theorem one_word (s:ByteArray) (i:Nat) (w:World) (hs:s.size ≤ 65536) (hi:i < s.size) (hL:ltrN (byA s i) = true) (n:Nat) (hn:enR wrdN s i = i + n) (hb:n ≤ 31) :
  Calls Tryz.prog 14 #[.string s,.int .i64 (i:Nat)] w fun e w' => OnA w w' 0 (s.extract i (i + n)) i e:=by
 have hr:=enR_run wrdN s (i:=i) (by omega)
 rw [hn] at hr
 have hj:=hr.top
 have HR:=Hj hr
 obtain ⟨wo,hwo⟩:∃ x,w.alloc (.cells #[.int .i64 0,.string ⟨#[]⟩,.int .i64 0,.bool false,.slice none 0 0,.slice none 0 0] 47) = x:=⟨_,rfl⟩
 have bo:Below w.heap.size w wo:=by rw [← hwo]; exact bAl
 have bO:BoxL wo w.heap.size [.int .i64 0,.string ⟨#[]⟩,.int .i64 0,.bool false,.slice none 0 0,.slice none 0 0]:=by have:=BoxL.made w #[.int .i64 0,.string ⟨#[]⟩,.int .i64 0,.bool false,.slice none 0 0,.slice none 0 0] 47; rw [hwo] at this; exact this
 have e1:=byA_get s i hi
 have e2:(s[i]'hi).toNat = byA s i:=by omega
 have KL:=w4letter_any (s[i]'hi).toNat wo
 rw [show ltrN (s[i]'hi).toNat = true by rw [e2]; exact hL] at KL
 have HL:=Hj KL
 have ti:(i:Int) < (s.size:Int):=by omega
 have tin:(i:Int) + (n:Int) ≤ (s.size:Int):=by omega
 have tb:¬ (31:Int) < (n:Int):=by omega
 obtain ⟨wt,hwt⟩:∃ x,wo.alloc (.cells #[.int .i64 1,.string (s.extract i (i + n)),.int .i64 (i:Int),.bool false,.slice none 0 0,.slice none 0 0] 47) = x:=⟨_,rfl⟩
 have bt:Below wo.heap.size wo wt:=by rw [← hwt]; exact bAl
 have bT:BoxL wt wo.heap.size [.int .i64 1,.string (s.extract i (i + n)),.int .i64 (i:Int),.bool false,.slice none 0 0,.slice none 0 0]:=by have:=BoxL.made wo #[.int .i64 1,.string (s.extract i (i + n)),.int .i64 (i:Int),.bool false,.slice none 0 0,.slice none 0 0] 47; rw [hwt] at this; exact this
 have bO2:=bO.below bt
 have hzo:wo.heap.size = w.heap.size + 1:=by rw [← hwo]; simp
 have HWT:=Hj hwt
 have HB:=Hj (And.intro bO2 (And.intro (bo.trans (bt.mono bo.size)) (And.intro bT hzo)))
 clear hwt
 clear KL bO bo e1 e2 hn hr bO2 bT bt hzo
 go_enter Tryz.func14,Tryz.ntmps14
 go_wp2_with fail
 refine (Uh HL).mono ?_
 rintro _ _ ⟨rfl,hw⟩
 obtain rfl:=hw.symm
 clear hw HL
 go_wp2_with fail
 go_loopw [7] (fun iv wr => ∃ q:Nat,q ≤ n ∧ iv = .int .i64 (q:Nat) ∧ Hid (wr = wo)) (fun iv _ => s.size - (intOf iv).toNat)
 case atStart => exact ⟨0,Nat.zero_le _,rfl,rfl⟩
 case round =>
  obtain ⟨q,h1,rfl,HW⟩:=hrel
  obtain rfl:=(Uh HW).symm
  clear HW
  by_cases hq:q < n
  ·have hlt:i + q < s.size:=by omega
   have hlt':(i:Int) + (q:Int) < (s.size:Int):=by omega
   have e:=byA_get s (i + q) hlt
   have e2:(s[(i + q)]'hlt).toNat = byA s (i + q):=by omega
   have KL:=w4letter_any (s[(i + q)]'hlt).toNat wo
   have KD:=w4digit_any (s[(i + q)]'hlt).toNat wo
   have hv:=(Uh HR).all (i + q) (by omega) (by omega)
   rw [← e2] at hv
   unfold wrdN at hv
   have HD:=Hj KD
   clear KD e
   by_cases hL:ltrN (s[(i + q)]'hlt).toNat = true
   ·rw [hL] at KL
    have HL:=Hj KL
    clear KL hv e2 HD
    go_wp2_with fail
    refine (Uh HL).mono ?_
    rintro _ _ ⟨rfl,hw⟩
    obtain rfl:=hw.symm
    clear hw HL
    go_wp2_with fail
    exact ⟨⟨q + 1,by omega,by (first | rfl | go_num),Hj trivial⟩,by simp [intOf]; omega⟩
   ·have hL2:ltrN (s[(i + q)]'hlt).toNat = false:=by simpa using hL
    rw [hL2] at KL
    have HL:=Hj KL
    have hD2:dgtN (s[(i + q)]'hlt).toNat = true:=by simpa [hL2] using hv
    rw [hD2] at HD
    clear KL hv e2 hL hL2 hD2
    go_wp2_with fail
    refine (Uh HL).mono ?_
    rintro _ _ ⟨rfl,hw⟩
    obtain rfl:=hw.symm
    clear hw HL
    go_wp2_with fail
    refine (Uh HD).mono ?_
    rintro _ _ ⟨rfl,hw⟩
    obtain rfl:=hw.symm
    clear hw HD
    go_wp2_with fail
    exact ⟨⟨q + 1,by omega,by (first | rfl | go_num),Hj trivial⟩,by simp [intOf]; omega⟩
  ·have hq2:q = n:=by omega
   subst hq2
   have HBW:=Hj (show True from trivial)
   by_cases hlt:i + q < s.size
   ·have hlt':(i:Int) + (q:Int) < (s.size:Int):=by omega
    have e:=byA_get s (i + q) hlt
    have e2:(s[(i + q)]'hlt).toNat = byA s (i + q):=by omega
    have KL:=w4letter_any (s[(i + q)]'hlt).toNat wo
    have KD:=w4digit_any (s[(i + q)]'hlt).toNat wo
    have hv:=(Uh HR).stop hlt
    rw [← e2] at hv
    unfold wrdN at hv
    have hL2:ltrN (s[(i + q)]'hlt).toNat = false:=by simp at hv; exact hv.1
    have hD2:dgtN (s[(i + q)]'hlt).toNat = false:=by simp at hv; exact hv.2
    rw [hL2] at KL
    rw [hD2] at KD
    have HL:=Hj KL
    have HD:=Hj KD
    clear KL KD hv e2 hL2 hD2 e
    go_wp2_with fail
    refine (Uh HL).mono ?_
    rintro _ _ ⟨rfl,hw⟩
    obtain rfl:=hw.symm
    clear hw HL
    go_wp2_with fail
    refine (Uh HD).mono ?_
    rintro _ _ ⟨rfl,hw⟩
    obtain rfl:=hw.symm
    clear hw HD
    try dsimp only
    repeat ((fail_if_success (with_reducible (show Code.wp _ _ _ _ (World.alloc wo _)))); (first | go_values | go_skip | go_guarded | go_step | go_upon | go_back))
    rw [Uh HWT]
    obtain ⟨bO2,bot,bT,hzo⟩:=Uh HB
    have p0:=(bT.all 0 _ rfl).1
    have p0f:=(bT.all 0 _ rfl).2
    have p1:=(bT.all 1 _ rfl).1
    have p1f:=(bT.all 1 _ rfl).2
    have p2:=(bT.all 2 _ rfl).1
    have p2f:=(bT.all 2 _ rfl).2
    have p3:=(bT.all 3 _ rfl).1
    have p3f:=(bT.all 3 _ rfl).2
    have p4:=(bT.all 4 _ rfl).1
    have p4f:=(bT.all 4 _ rfl).2
    have p5:=(bT.all 5 _ rfl).1
    have p5f:=(bT.all 5 _ rfl).2
    have o0:=(bO2.all 0 _ rfl).1
    have o0f:=(bO2.all 0 _ rfl).2
    have o1:=(bO2.all 1 _ rfl).1
    have o1f:=(bO2.all 1 _ rfl).2
    have o2:=(bO2.all 2 _ rfl).1
    have o2f:=(bO2.all 2 _ rfl).2
    have o3:=(bO2.all 3 _ rfl).1
    have o3f:=(bO2.all 3 _ rfl).2
    have o4:=(bO2.all 4 _ rfl).1
    have o4f:=(bO2.all 4 _ rfl).2
    have o5:=(bO2.all 5 _ rfl).1
    have o5f:=(bO2.all 5 _ rfl).2
    clear bO2 bot bT hzo
    have KW:=Hj (fun (W:World) => w4isword_any (s.extract i (i + q)) W)
    go_wp2_with fail
    refine (Uh KW _).mono ?_
    rintro _ _ ⟨⟨b,rfl⟩,hw⟩
    obtain rfl:=hw.symm
    clear hw KW
    cases b
    ·go_wp2_with fail
     obtain ⟨bO2,bot,bT,hzo⟩:=Uh HB
     have hf:=((((((bO2).put 0 (.int .i64 1)).put 1 (.string (s.extract i (i + q)))).put 2 (.int .i64 (i:Int))).put 3 (.bool false)).put 4 (.slice none 0 0)).put 5 (.slice none 0 0)
     have f0:=(hf.all 0 _ rfl).1
     have f1:=(hf.all 1 _ rfl).1
     have f2:=(hf.all 2 _ rfl).1
     have f3:=(hf.all 3 _ rfl).1
     have f4:=(hf.all 4 _ rfl).1
     have f5:=(hf.all 5 _ rfl).1
     have hb:=bel_put (bel_put (bel_put (bel_put (bel_put (bel_put (bot) (b:=w.heap.size) (Nat.le_refl _) (Nat.le_refl _) 0 (.int .i64 1)) (b:=w.heap.size) (Nat.le_refl _) (Nat.le_refl _) 1 (.string (s.extract i (i + q)))) (b:=w.heap.size) (Nat.le_refl _) (Nat.le_refl _) 2 (.int .i64 (i:Int))) (b:=w.heap.size) (Nat.le_refl _) (Nat.le_refl _) 3 (.bool false)) (b:=w.heap.size) (Nat.le_refl _) (Nat.le_refl _) 4 (.slice none 0 0)) (b:=w.heap.size) (Nat.le_refl _) (Nat.le_refl _) 5 (.slice none 0 0)
     generalize ((((((wt.setCell ⟨w.heap.size,0,none⟩ (.int .i64 1)).setCell ⟨w.heap.size,1,none⟩ (.string (s.extract i (i + q)))).setCell ⟨w.heap.size,2,none⟩ (.int .i64 (i:Int))).setCell ⟨w.heap.size,3,none⟩ (.bool false)).setCell ⟨w.heap.size,4,none⟩ (.slice none 0 0)).setCell ⟨w.heap.size,5,none⟩ (.slice none 0 0)) = wf at *
     refine bodyPost_ret (by simp [results,Tryz.results14,go_sem,f0,f1,f2,f3,f4,f5]; try rfl) rfl ?_
     exact ⟨_,_,_,_,_,_,_,_,_,_,rfl,(fun _ => ⟨rfl,rfl⟩),hb⟩
    ·obtain ⟨bO2,bot,bT,hzo⟩:=Uh HB
     have k1:Chg (fun j => j = wo.heap.size) wt (wt.setCell ⟨wo.heap.size,0,none⟩ (.int .i64 2)):=Chg.of_set _ _ _ _ rfl
     have bO3:=bO2.chg k1 (by omega)
     have bT3:=bT.put 0 (.int .i64 2)
     have bo3:Below w.heap.size w (wt.setCell ⟨wo.heap.size,0,none⟩ (.int .i64 2)):=bel_put bot (by omega) (Nat.le_refl _) 0 _
     obtain ⟨wu,hwu⟩:∃ x,wt.setCell ⟨wo.heap.size,0,none⟩ (.int .i64 2) = x:=⟨_,rfl⟩
     rw [hwu] at bO3 bT3 bo3
     have r0:=(bT3.all 0 _ rfl).1
     have r0f:=(bT3.all 0 _ rfl).2
     have r1:=(bT3.all 1 _ rfl).1
     have r1f:=(bT3.all 1 _ rfl).2
     have r2:=(bT3.all 2 _ rfl).1
     have r2f:=(bT3.all 2 _ rfl).2
     have r3:=(bT3.all 3 _ rfl).1
     have r3f:=(bT3.all 3 _ rfl).2
     have r4:=(bT3.all 4 _ rfl).1
     have r4f:=(bT3.all 4 _ rfl).2
     have r5:=(bT3.all 5 _ rfl).1
     have r5f:=(bT3.all 5 _ rfl).2
     have v0:=(bO3.all 0 _ rfl).1
     have v0f:=(bO3.all 0 _ rfl).2
     have v1:=(bO3.all 1 _ rfl).1
     have v1f:=(bO3.all 1 _ rfl).2
     have v2:=(bO3.all 2 _ rfl).1
     have v2f:=(bO3.all 2 _ rfl).2
     have v3:=(bO3.all 3 _ rfl).1
     have v3f:=(bO3.all 3 _ rfl).2
     have v4:=(bO3.all 4 _ rfl).1
     have v4f:=(bO3.all 4 _ rfl).2
     have v5:=(bO3.all 5 _ rfl).1
     have v5f:=(bO3.all 5 _ rfl).2
     have HB3:=Hj (And.intro bO3 bo3)
     clear bO2 bot bT k1 bO3 bT3 bo3 hzo
     go_wp2_with fail
     obtain ⟨bO3,bo3⟩:=Uh HB3
     have hf:=((((((bO3).put 0 (.int .i64 2)).put 1 (.string (s.extract i (i + q)))).put 2 (.int .i64 (i:Int))).put 3 (.bool false)).put 4 (.slice none 0 0)).put 5 (.slice none 0 0)
     have f0:=(hf.all 0 _ rfl).1
     have f1:=(hf.all 1 _ rfl).1
     have f2:=(hf.all 2 _ rfl).1
     have f3:=(hf.all 3 _ rfl).1
     have f4:=(hf.all 4 _ rfl).1
     have f5:=(hf.all 5 _ rfl).1
     have hb:=bel_put (bel_put (bel_put (bel_put (bel_put (bel_put (bo3) (b:=w.heap.size) (Nat.le_refl _) (Nat.le_refl _) 0 (.int .i64 2)) (b:=w.heap.size) (Nat.le_refl _) (Nat.le_refl _) 1 (.string (s.extract i (i + q)))) (b:=w.heap.size) (Nat.le_refl _) (Nat.le_refl _) 2 (.int .i64 (i:Int))) (b:=w.heap.size) (Nat.le_refl _) (Nat.le_refl _) 3 (.bool false)) (b:=w.heap.size) (Nat.le_refl _) (Nat.le_refl _) 4 (.slice none 0 0)) (b:=w.heap.size) (Nat.le_refl _) (Nat.le_refl _) 5 (.slice none 0 0)
     generalize ((((((wu.setCell ⟨w.heap.size,0,none⟩ (.int .i64 2)).setCell ⟨w.heap.size,1,none⟩ (.string (s.extract i (i + q)))).setCell ⟨w.heap.size,2,none⟩ (.int .i64 (i:Int))).setCell ⟨w.heap.size,3,none⟩ (.bool false)).setCell ⟨w.heap.size,4,none⟩ (.slice none 0 0)).setCell ⟨w.heap.size,5,none⟩ (.slice none 0 0)) = wf at *
     refine bodyPost_ret (by simp [results,Tryz.results14,go_sem,f0,f1,f2,f3,f4,f5]; try rfl) rfl ?_
     exact ⟨_,_,_,_,_,_,_,_,_,_,rfl,(fun _ => ⟨rfl,rfl⟩),hb⟩
   ·have hlt':¬ (i:Int) + (q:Int) < (s.size:Int):=by omega
    try dsimp only
    repeat ((fail_if_success (with_reducible (show Code.wp _ _ _ _ (World.alloc wo _)))); (first | go_values | go_skip | go_guarded | go_step | go_upon | go_back))
    rw [Uh HWT]
    obtain ⟨bO2,bot,bT,hzo⟩:=Uh HB
    have p0:=(bT.all 0 _ rfl).1
    have p0f:=(bT.all 0 _ rfl).2
    have p1:=(bT.all 1 _ rfl).1
    have p1f:=(bT.all 1 _ rfl).2
    have p2:=(bT.all 2 _ rfl).1
    have p2f:=(bT.all 2 _ rfl).2
    have p3:=(bT.all 3 _ rfl).1
    have p3f:=(bT.all 3 _ rfl).2
    have p4:=(bT.all 4 _ rfl).1
    have p4f:=(bT.all 4 _ rfl).2
    have p5:=(bT.all 5 _ rfl).1
    have p5f:=(bT.all 5 _ rfl).2
    have o0:=(bO2.all 0 _ rfl).1
    have o0f:=(bO2.all 0 _ rfl).2
    have o1:=(bO2.all 1 _ rfl).1
    have o1f:=(bO2.all 1 _ rfl).2
    have o2:=(bO2.all 2 _ rfl).1
    have o2f:=(bO2.all 2 _ rfl).2
    have o3:=(bO2.all 3 _ rfl).1
    have o3f:=(bO2.all 3 _ rfl).2
    have o4:=(bO2.all 4 _ rfl).1
    have o4f:=(bO2.all 4 _ rfl).2
    have o5:=(bO2.all 5 _ rfl).1
    have o5f:=(bO2.all 5 _ rfl).2
    clear bO2 bot bT hzo
    have KW:=Hj (fun (W:World) => w4isword_any (s.extract i (i + q)) W)
    go_wp2_with fail
    refine (Uh KW _).mono ?_
    rintro _ _ ⟨⟨b,rfl⟩,hw⟩
    obtain rfl:=hw.symm
    clear hw KW
    cases b
    ·go_wp2_with fail
     obtain ⟨bO2,bot,bT,hzo⟩:=Uh HB
     have hf:=((((((bO2).put 0 (.int .i64 1)).put 1 (.string (s.extract i (i + q)))).put 2 (.int .i64 (i:Int))).put 3 (.bool false)).put 4 (.slice none 0 0)).put 5 (.slice none 0 0)
     have f0:=(hf.all 0 _ rfl).1
     have f1:=(hf.all 1 _ rfl).1
     have f2:=(hf.all 2 _ rfl).1
     have f3:=(hf.all 3 _ rfl).1
     have f4:=(hf.all 4 _ rfl).1
     have f5:=(hf.all 5 _ rfl).1
     have hb:=bel_put (bel_put (bel_put (bel_put (bel_put (bel_put (bot) (b:=w.heap.size) (Nat.le_refl _) (Nat.le_refl _) 0 (.int .i64 1)) (b:=w.heap.size) (Nat.le_refl _) (Nat.le_refl _) 1 (.string (s.extract i (i + q)))) (b:=w.heap.size) (Nat.le_refl _) (Nat.le_refl _) 2 (.int .i64 (i:Int))) (b:=w.heap.size) (Nat.le_refl _) (Nat.le_refl _) 3 (.bool false)) (b:=w.heap.size) (Nat.le_refl _) (Nat.le_refl _) 4 (.slice none 0 0)) (b:=w.heap.size) (Nat.le_refl _) (Nat.le_refl _) 5 (.slice none 0 0)
     generalize ((((((wt.setCell ⟨w.heap.size,0,none⟩ (.int .i64 1)).setCell ⟨w.heap.size,1,none⟩ (.string (s.extract i (i + q)))).setCell ⟨w.heap.size,2,none⟩ (.int .i64 (i:Int))).setCell ⟨w.heap.size,3,none⟩ (.bool false)).setCell ⟨w.heap.size,4,none⟩ (.slice none 0 0)).setCell ⟨w.heap.size,5,none⟩ (.slice none 0 0)) = wf at *
     refine bodyPost_ret (by simp [results,Tryz.results14,go_sem,f0,f1,f2,f3,f4,f5]; try rfl) rfl ?_
     exact ⟨_,_,_,_,_,_,_,_,_,_,rfl,(fun _ => ⟨rfl,rfl⟩),hb⟩
    ·obtain ⟨bO2,bot,bT,hzo⟩:=Uh HB
     have k1:Chg (fun j => j = wo.heap.size) wt (wt.setCell ⟨wo.heap.size,0,none⟩ (.int .i64 2)):=Chg.of_set _ _ _ _ rfl
     have bO3:=bO2.chg k1 (by omega)
     have bT3:=bT.put 0 (.int .i64 2)
     have bo3:Below w.heap.size w (wt.setCell ⟨wo.heap.size,0,none⟩ (.int .i64 2)):=bel_put bot (by omega) (Nat.le_refl _) 0 _
     obtain ⟨wu,hwu⟩:∃ x,wt.setCell ⟨wo.heap.size,0,none⟩ (.int .i64 2) = x:=⟨_,rfl⟩
     rw [hwu] at bO3 bT3 bo3
     have r0:=(bT3.all 0 _ rfl).1
     have r0f:=(bT3.all 0 _ rfl).2
     have r1:=(bT3.all 1 _ rfl).1
     have r1f:=(bT3.all 1 _ rfl).2
     have r2:=(bT3.all 2 _ rfl).1
     have r2f:=(bT3.all 2 _ rfl).2
     have r3:=(bT3.all 3 _ rfl).1
     have r3f:=(bT3.all 3 _ rfl).2
     have r4:=(bT3.all 4 _ rfl).1
     have r4f:=(bT3.all 4 _ rfl).2
     have r5:=(bT3.all 5 _ rfl).1
     have r5f:=(bT3.all 5 _ rfl).2
     have v0:=(bO3.all 0 _ rfl).1
     have v0f:=(bO3.all 0 _ rfl).2
     have v1:=(bO3.all 1 _ rfl).1
     have v1f:=(bO3.all 1 _ rfl).2
     have v2:=(bO3.all 2 _ rfl).1
     have v2f:=(bO3.all 2 _ rfl).2
     have v3:=(bO3.all 3 _ rfl).1
     have v3f:=(bO3.all 3 _ rfl).2
     have v4:=(bO3.all 4 _ rfl).1
     have v4f:=(bO3.all 4 _ rfl).2
     have v5:=(bO3.all 5 _ rfl).1
     have v5f:=(bO3.all 5 _ rfl).2
     have HB3:=Hj (And.intro bO3 bo3)
     clear bO2 bot bT k1 bO3 bT3 bo3 hzo
     go_wp2_with fail
     obtain ⟨bO3,bo3⟩:=Uh HB3
     have hf:=((((((bO3).put 0 (.int .i64 2)).put 1 (.string (s.extract i (i + q)))).put 2 (.int .i64 (i:Int))).put 3 (.bool false)).put 4 (.slice none 0 0)).put 5 (.slice none 0 0)
     have f0:=(hf.all 0 _ rfl).1
     have f1:=(hf.all 1 _ rfl).1
     have f2:=(hf.all 2 _ rfl).1
     have f3:=(hf.all 3 _ rfl).1
     have f4:=(hf.all 4 _ rfl).1
     have f5:=(hf.all 5 _ rfl).1
     have hb:=bel_put (bel_put (bel_put (bel_put (bel_put (bel_put (bo3) (b:=w.heap.size) (Nat.le_refl _) (Nat.le_refl _) 0 (.int .i64 2)) (b:=w.heap.size) (Nat.le_refl _) (Nat.le_refl _) 1 (.string (s.extract i (i + q)))) (b:=w.heap.size) (Nat.le_refl _) (Nat.le_refl _) 2 (.int .i64 (i:Int))) (b:=w.heap.size) (Nat.le_refl _) (Nat.le_refl _) 3 (.bool false)) (b:=w.heap.size) (Nat.le_refl _) (Nat.le_refl _) 4 (.slice none 0 0)) (b:=w.heap.size) (Nat.le_refl _) (Nat.le_refl _) 5 (.slice none 0 0)
     generalize ((((((wu.setCell ⟨w.heap.size,0,none⟩ (.int .i64 2)).setCell ⟨w.heap.size,1,none⟩ (.string (s.extract i (i + q)))).setCell ⟨w.heap.size,2,none⟩ (.int .i64 (i:Int))).setCell ⟨w.heap.size,3,none⟩ (.bool false)).setCell ⟨w.heap.size,4,none⟩ (.slice none 0 0)).setCell ⟨w.heap.size,5,none⟩ (.slice none 0 0)) = wf at *
     refine bodyPost_ret (by simp [results,Tryz.results14,go_sem,f0,f1,f2,f3,f4,f5]; try rfl) rfl ?_
     exact ⟨_,_,_,_,_,_,_,_,_,_,rfl,(fun _ => ⟨rfl,rfl⟩),hb⟩
end Go.Proofs.YtjoaijbhpgekoaaGreatDoor
