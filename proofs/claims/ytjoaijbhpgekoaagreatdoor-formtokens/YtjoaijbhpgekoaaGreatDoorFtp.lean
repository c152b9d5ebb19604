/- Ftr -/
import Derived.Test.YtjoaijbhpgekoaaGreatDoorFtop
import Derived.Test.YtjoaijbhpgekoaaGreatDoorFtom
import Derived.Test.YtjoaijbhpgekoaaGreatDoorFtm
import Derived.Test.YtjoaijbhpgekoaaGreatDoorFt8a
namespace Go.Proofs.YtjoaijbhpgekoaaGreatDoor
open Go.RowKit Go.Deep
set_option linter.unusedVariables false
theorem n4_brm (s:ByteArray) (i:Nat) (w:World) (hs:s.size ≤ 65536) (hi:i < s.size) (h91:byA s i = 91) (h1:i + 1 < s.size) (hm:byA s (i + 1) = 45):Calls Tryz.prog 26 #[.string s,.int .i64 (i:Nat)] w fun e w' => NuA w w' (brE s i - i) e:=by
 have hj:brS s i = (i + 1 + 1):=by unfold brS; rw [if_pos ⟨h1,hm⟩]
 unfold brE
 dsimp only
 rw [hj]
 have R1:=enR_run dgtN s (i:=(i + 1 + 1)) (by omega)
 obtain ⟨n,hn⟩:∃ n,enR dgtN s (i + 1 + 1) = ((i + 1 + 1) + n):=⟨enR dgtN s (i + 1 + 1) - (i + 1 + 1),by have:=R1.le; omega⟩
 rw [hn]
 by_cases cs:((i + 1 + 1) + n) < s.size ∧ byA s ((i + 1 + 1) + n) = 47
 ·rw [if_pos cs]
  have R2:=enR_run dgtN s (i:=((i + 1 + 1) + n) + 1) (by omega)
  obtain ⟨k,hk⟩:∃ k,enR dgtN s (((i + 1 + 1) + n) + 1) = (((i + 1 + 1) + n) + 1 + k):=⟨enR dgtN s (((i + 1 + 1) + n) + 1) - (((i + 1 + 1) + n) + 1),by have:=R2.le; omega⟩
  rw [hk]
  by_cases c1:(((i + 1 + 1) + n) + 1 + k) < s.size
  ·by_cases c2:byA s (((i + 1 + 1) + n) + 1 + k) = 93
   ·by_cases c3:fitD s (i + 1 + 1) ((i + 1 + 1) + n) = true
    ·by_cases c4:fitD s (((i + 1 + 1) + n) + 1) (((i + 1 + 1) + n) + 1 + k) = true
     ·by_cases c5:pwS s (((i + 1 + 1) + n) + 1) ((((i + 1 + 1) + n) + 1 + k) - (((i + 1 + 1) + n) + 1)) = 0
      ·rw [if_neg (fun h => h.2.2.2.2 c5),Nat.zero_sub]
       exact n4_mSZ s i w hs hi h91 h1 hm n hn cs.1 cs.2 k hk c1 c2 (erD_fit.2 c3) (erD_fit.2 c4) ((zsD_nil c4).2 c5)
      ·rw [if_pos ⟨c1,c2,c3,c4,c5⟩]
       exact n4_mSO s i w hs hi h91 h1 hm n hn cs.1 cs.2 k hk c1 c2 (erD_fit.2 c3) (erD_fit.2 c4) (fun e => c5 ((zsD_nil c4).1 e))
     ·rw [if_neg (fun h => c4 h.2.2.2.1),Nat.zero_sub]
      exact n4_mSF s i w hs hi h91 h1 hm n hn cs.1 cs.2 k hk c1 c2 (erD_fit.2 c3) (fun e => c4 (erD_fit.1 e))
    ·rw [if_neg (fun h => c3 h.2.2.1),Nat.zero_sub]
     exact n4_mSX s i w hs hi h91 h1 hm n hn cs.1 cs.2 k hk c1 c2 (fun e => c3 (erD_fit.1 e))
   ·rw [if_neg (fun h => c2 h.2.1),Nat.zero_sub]
    exact n4_mSB s i w hs hi h91 h1 hm n hn cs.1 cs.2 k hk c1 c2
  ·rw [if_neg (fun h => c1 h.1),Nat.zero_sub]
   exact n4_mSE s i w hs hi h91 h1 hm n hn cs.1 cs.2 k hk (by omega)
 ·rw [if_neg cs]
  by_cases c1:((i + 1 + 1) + n) < s.size
  ·have c47:byA s ((i + 1 + 1) + n) ≠ 47:=fun e => cs ⟨c1,e⟩
   by_cases c2:byA s ((i + 1 + 1) + n) = 93
   ·by_cases c3:fitD s (i + 1 + 1) ((i + 1 + 1) + n) = true
    ·rw [if_pos ⟨c1,c2,c3⟩]
     exact n4_mNO s i w hs hi h91 h1 hm n hn c1 c47 c2 (erD_fit.2 c3)
    ·rw [if_neg (fun h => c3 h.2.2),Nat.zero_sub]
     exact n4_mNX s i w hs hi h91 h1 hm n hn c1 c47 c2 (fun e => c3 (erD_fit.1 e))
   ·rw [if_neg (fun h => c2 h.2.1),Nat.zero_sub]
    exact n4_mNB s i w hs hi h91 h1 hm n hn c1 c47 c2
  ·rw [if_neg (fun h => c1 h.1),Nat.zero_sub]
   exact n4_mNE s i w hs hi h91 h1 hm n hn (by omega)
theorem n4_brp (s:ByteArray) (i:Nat) (w:World) (hs:s.size ≤ 65536) (hi:i < s.size) (h91:byA s i = 91) (h1:i + 1 < s.size) (hm:byA s (i + 1) ≠ 45):Calls Tryz.prog 26 #[.string s,.int .i64 (i:Nat)] w fun e w' => NuA w w' (brE s i - i) e:=by
 have hj:brS s i = (i + 1):=by unfold brS; rw [if_neg (fun c => hm c.2)]
 unfold brE
 dsimp only
 rw [hj]
 have R1:=enR_run dgtN s (i:=(i + 1)) (by omega)
 obtain ⟨n,hn⟩:∃ n,enR dgtN s (i + 1) = ((i + 1) + n):=⟨enR dgtN s (i + 1) - (i + 1),by have:=R1.le; omega⟩
 rw [hn]
 by_cases cs:((i + 1) + n) < s.size ∧ byA s ((i + 1) + n) = 47
 ·rw [if_pos cs]
  have R2:=enR_run dgtN s (i:=((i + 1) + n) + 1) (by omega)
  obtain ⟨k,hk⟩:∃ k,enR dgtN s (((i + 1) + n) + 1) = (((i + 1) + n) + 1 + k):=⟨enR dgtN s (((i + 1) + n) + 1) - (((i + 1) + n) + 1),by have:=R2.le; omega⟩
  rw [hk]
  by_cases c1:(((i + 1) + n) + 1 + k) < s.size
  ·by_cases c2:byA s (((i + 1) + n) + 1 + k) = 93
   ·by_cases c3:fitD s (i + 1) ((i + 1) + n) = true
    ·by_cases c4:fitD s (((i + 1) + n) + 1) (((i + 1) + n) + 1 + k) = true
     ·by_cases c5:pwS s (((i + 1) + n) + 1) ((((i + 1) + n) + 1 + k) - (((i + 1) + n) + 1)) = 0
      ·rw [if_neg (fun h => h.2.2.2.2 c5),Nat.zero_sub]
       exact n4_pSZ s i w hs hi h91 h1 hm n hn cs.1 cs.2 k hk c1 c2 (erD_fit.2 c3) (erD_fit.2 c4) ((zsD_nil c4).2 c5)
      ·rw [if_pos ⟨c1,c2,c3,c4,c5⟩]
       exact n4_pSO s i w hs hi h91 h1 hm n hn cs.1 cs.2 k hk c1 c2 (erD_fit.2 c3) (erD_fit.2 c4) (fun e => c5 ((zsD_nil c4).1 e))
     ·rw [if_neg (fun h => c4 h.2.2.2.1),Nat.zero_sub]
      exact n4_pSF s i w hs hi h91 h1 hm n hn cs.1 cs.2 k hk c1 c2 (erD_fit.2 c3) (fun e => c4 (erD_fit.1 e))
    ·rw [if_neg (fun h => c3 h.2.2.1),Nat.zero_sub]
     exact n4_pSX s i w hs hi h91 h1 hm n hn cs.1 cs.2 k hk c1 c2 (fun e => c3 (erD_fit.1 e))
   ·rw [if_neg (fun h => c2 h.2.1),Nat.zero_sub]
    exact n4_pSB s i w hs hi h91 h1 hm n hn cs.1 cs.2 k hk c1 c2
  ·rw [if_neg (fun h => c1 h.1),Nat.zero_sub]
   exact n4_pSE s i w hs hi h91 h1 hm n hn cs.1 cs.2 k hk (by omega)
 ·rw [if_neg cs]
  by_cases c1:((i + 1) + n) < s.size
  ·have c47:byA s ((i + 1) + n) ≠ 47:=fun e => cs ⟨c1,e⟩
   by_cases c2:byA s ((i + 1) + n) = 93
   ·by_cases c3:fitD s (i + 1) ((i + 1) + n) = true
    ·rw [if_pos ⟨c1,c2,c3⟩]
     exact n4_pNO s i w hs hi h91 h1 hm n hn c1 c47 c2 (erD_fit.2 c3)
    ·rw [if_neg (fun h => c3 h.2.2),Nat.zero_sub]
     exact n4_pNX s i w hs hi h91 h1 hm n hn c1 c47 c2 (fun e => c3 (erD_fit.1 e))
   ·rw [if_neg (fun h => c2 h.2.1),Nat.zero_sub]
    exact n4_pNB s i w hs hi h91 h1 hm n hn c1 c47 c2
  ·rw [if_neg (fun h => c1 h.1),Nat.zero_sub]
   exact n4_pNE s i w hs hi h91 h1 hm n hn (by omega)
theorem n4_any (s:ByteArray) (i:Nat) (w:World) (hs:s.size ≤ 65536) (hi:i < s.size):Calls Tryz.prog 26 #[.string s,.int .i64 (i:Nat)] w fun e w' => NuA w w' (nuE s i - i) e:=by
 by_cases h91:byA s i = 91
 ·unfold nuE
  rw [if_pos h91]
  by_cases h1:i + 1 < s.size
  ·by_cases hm:byA s (i + 1) = 45
   ·exact n4_brm s i w hs hi h91 h1 hm
   ·exact n4_brp s i w hs hi h91 h1 hm
  ·have he:s.size = i + 1:=by omega
   have hj:brS s i = i + 1:=by unfold brS; rw [if_neg (fun c => h1 c.1)]
   have R1:=enR_run dgtN s (i:=i + 1) (by omega)
   have hn:enR dgtN s (i + 1) = i + 1 + 0:=by have:=R1.le; have:=R1.top; omega
   unfold brE
   dsimp only
   rw [hj,hn,if_neg (fun c => by have:=c.1; omega),if_neg (fun c => by have:=c.1; omega),Nat.zero_sub]
   exact n4_qNE s i w hs hi h91 he 0 hn (by omega)
 ·exact n4_plain s i w hs hi h91
def OnA (w w':World) (er:Nat) (T:ByteArray) (i:Nat) (e:Ending):Prop:=∃ kd T' a0 g x4 n4 c4 x5 n5 c5,e = .returned (.tuple #[.agg #[.int .i64 kd,.string T',.int .i64 a0,.bool g,.slice x4 n4 c4,.slice x5 n5 c5],.int .i64 (er:Int)]) ∧ (er = 0 → T' = T ∧ a0 = (i:Int)) ∧ Below w.heap.size w w'
def mkB:ByteArray:=⟨#[44,61,43,45,42,47,94,40,41]⟩
theorem mk_size:mkB.size = 9:=rfl
theorem mk_none {c:Nat} (h:∀ q,q < 9 → byA mkB q ≠ c):markN c = false:=by
 have h0:=h 0 (by decide)
 have h1:=h 1 (by decide)
 have h2:=h 2 (by decide)
 have h3:=h 3 (by decide)
 have h4:=h 4 (by decide)
 have h5:=h 5 (by decide)
 have h6:=h 6 (by decide)
 have h7:=h 7 (by decide)
 have h8:=h 8 (by decide)
 have e0:byA mkB 0 = 44:=rfl
 have e1:byA mkB 1 = 61:=rfl
 have e2:byA mkB 2 = 43:=rfl
 have e3:byA mkB 3 = 45:=rfl
 have e4:byA mkB 4 = 42:=rfl
 have e5:byA mkB 5 = 47:=rfl
 have e6:byA mkB 6 = 94:=rfl
 have e7:byA mkB 7 = 40:=rfl
 have e8:byA mkB 8 = 41:=rfl
 unfold markN
 simp
 omega
theorem mk_some {c q:Nat} (hq:q < 9) (h:byA mkB q = c):markN c = true:=by
 subst h
 match q,hq with
 | 0,_ => rfl
 | 1,_ => rfl
 | 2,_ => rfl
 | 3,_ => rfl
 | 4,_ => rfl
 | 5,_ => rfl
 | 6,_ => rfl
 | 7,_ => rfl
 | 8,_ => rfl
theorem one_same {M s:ByteArray} {q i:Nat} (hq:q < M.size) (hi:i < s.size) (h:byA M q = byA s i):M.extract q (q + 1) = s.extract i (i + 1):=by
 have e1:(M.extract q (q + 1)).size = 1:=by rw [ByteArray.size_extract]; omega
 have e2:(s.extract i (i + 1)).size = 1:=by rw [ByteArray.size_extract]; omega
 apply ByteArray.ext_getElem
 ·rw [e1,e2]
 ·intro k h1 h2
  obtain rfl:k = 0:=by omega
  have b1:=byA_get (M.extract q (q + 1)) 0 h1
  have b2:=byA_get (s.extract i (i + 1)) 0 h2
  have c1:byA (M.extract q (q + 1)) 0 = byA M q:=by rw [byA_ext (by omega) (by omega),Nat.add_zero]
  have c2:byA (s.extract i (i + 1)) 0 = byA s i:=by rw [byA_ext (by omega) (by omega),Nat.add_zero]
  apply UInt8.toNat_inj.1
  omega
set_option maxRecDepth 100000 in
set_option maxHeartbeats 16000000 in
theorem one_mark (s:ByteArray) (i:Nat) (w:World) (hs:s.size ≤ 65536) (hi:i < s.size) (hL:ltrN (byA s i) = false) (hD:dgtN (byA s i) = false) (h91:byA s i ≠ 91) :
  Calls Tryz.prog 14 #[.string s,.int .i64 (i:Nat)] w fun e w' => OnA w w' (if markN (byA s i) = true then 0 else 80) (s.extract i (i + 1)) i e:=by
 obtain ⟨ER,hER⟩:∃ r,(if markN (byA s i) = true then 0 else 80) = r:=⟨_,rfl⟩
 rw [hER]
 have HER:=Hj hER
 clear hER
 obtain ⟨wo,hwo⟩:∃ x,w.alloc (.cells #[.int .i64 0,.string ⟨#[]⟩,.int .i64 0,.bool false,.slice none 0 0,.slice none 0 0] 47) = x:=⟨_,rfl⟩
 have bo:Below w.heap.size w wo:=by rw [← hwo]; exact bAl
 have bO:BoxL wo w.heap.size [.int .i64 0,.string ⟨#[]⟩,.int .i64 0,.bool false,.slice none 0 0,.slice none 0 0]:=by have:=BoxL.made w #[.int .i64 0,.string ⟨#[]⟩,.int .i64 0,.bool false,.slice none 0 0,.slice none 0 0] 47; rw [hwo] at this; exact this
 have e1:=byA_get s i hi
 have e2:(s[i]'hi).toNat = byA s i:=by omega
 have KL:=w4letter_any (s[i]'hi).toNat wo
 have KD:=w4digit_any (s[i]'hi).toNat wo
 rw [show ltrN (s[i]'hi).toNat = false by rw [e2]; exact hL] at KL
 rw [show dgtN (s[i]'hi).toNat = false by rw [e2]; exact hD] at KD
 have HL:=Hj KL
 have HD:=Hj KD
 have t91:(((s[i]'hi).toNat:Int) == 91) = false:=by simp; omega
 have ti:(i:Int) < (s.size:Int):=by omega
 have o0:=(bO.all 0 _ rfl).1
 have o0f:=(bO.all 0 _ rfl).2
 have o1:=(bO.all 1 _ rfl).1
 have o1f:=(bO.all 1 _ rfl).2
 have o2:=(bO.all 2 _ rfl).1
 have o2f:=(bO.all 2 _ rfl).2
 have o3:=(bO.all 3 _ rfl).1
 have o3f:=(bO.all 3 _ rfl).2
 have o4:=(bO.all 4 _ rfl).1
 have o4f:=(bO.all 4 _ rfl).2
 have o5:=(bO.all 5 _ rfl).1
 have o5f:=(bO.all 5 _ rfl).2
 have HB:=Hj (And.intro bO bo)
 have HE:=Hj (And.intro e1 e2)
 clear KL KD bO bo e1 e2
 go_enter Tryz.func14,Tryz.ntmps14
 go_wp2_with fail
 refine (Uh HL).mono ?_
 rintro _ _ ⟨rfl,hw⟩
 obtain rfl:=hw.symm
 clear hw HL
 go_wp2_with fail
 refine (Uh HD).mono ?_
 rintro _ _ ⟨rfl,hw⟩
 obtain rfl:=hw.symm
 clear hw HD
 go_wp2_with fail
 rw [show ({ data:=#[44,61,43,45,42,47,94,40,41] }:ByteArray) = mkB from rfl]
 go_loopw [12] (fun iv wr => ∃ q:Nat,q ≤ 9 ∧ iv = .int .i64 (q:Nat) ∧ (∀ p,p < q → byA mkB p ≠ byA s i) ∧ Hid (wr = wo)) (fun iv _ => 9 - (intOf iv).toNat)
 case atStart => exact ⟨0,Nat.zero_le _,rfl,(fun p hp => absurd hp (Nat.not_lt_zero _)),rfl⟩
 case round =>
  obtain ⟨q,hq,rfl,hno,HW⟩:=hrel
  obtain rfl:=(Uh HW).symm
  have HN:=Hj hno
  clear HW hno
  have msz:mkB.size = 9:=mk_size
  obtain ⟨M,hM'⟩:∃ M,mkB = M:=⟨_,rfl⟩
  rw [hM'] at msz ⊢
  by_cases hlt:q < M.size
  ·have hlt':(q:Int) < (M.size:Int):=by omega
   have g1:=byA_get M q hlt
   have hle:(q:Int) + 1 ≤ (M.size:Int):=by omega
   by_cases hm:byA M q = byA s i
   ·have tm:(((M[q]'hlt).toNat:Int) == ((s[i]'hi).toNat:Int)) = true:=by have:=(Uh HE).1; simp; omega
    have HM:=Hj hm
    have hER0:ER = 0:=by rw [← Uh HER,if_pos (mk_some (q:=q) (by omega) (by rw [hM']; exact Uh HM))]
    subst hER0
    go_wp2_with fail
    obtain ⟨bO,bo⟩:=Uh HB
    have hf:=((((((bO).put 0 (.int .i64 4)).put 1 (.string (M.extract q (q + 1)))).put 2 (.int .i64 (i:Int))).put 3 (.bool false)).put 4 (.slice none 0 0)).put 5 (.slice none 0 0)
    have f0:=(hf.all 0 _ rfl).1
    have f1:=(hf.all 1 _ rfl).1
    have f2:=(hf.all 2 _ rfl).1
    have f3:=(hf.all 3 _ rfl).1
    have f4:=(hf.all 4 _ rfl).1
    have f5:=(hf.all 5 _ rfl).1
    have hb:=bel_put (bel_put (bel_put (bel_put (bel_put (bel_put (bo) (b:=w.heap.size) (Nat.le_refl _) (Nat.le_refl _) 0 (.int .i64 4)) (b:=w.heap.size) (Nat.le_refl _) (Nat.le_refl _) 1 (.string (M.extract q (q + 1)))) (b:=w.heap.size) (Nat.le_refl _) (Nat.le_refl _) 2 (.int .i64 (i:Int))) (b:=w.heap.size) (Nat.le_refl _) (Nat.le_refl _) 3 (.bool false)) (b:=w.heap.size) (Nat.le_refl _) (Nat.le_refl _) 4 (.slice none 0 0)) (b:=w.heap.size) (Nat.le_refl _) (Nat.le_refl _) 5 (.slice none 0 0)
    generalize ((((((wo.setCell ⟨w.heap.size,0,none⟩ (.int .i64 4)).setCell ⟨w.heap.size,1,none⟩ (.string (M.extract q (q + 1)))).setCell ⟨w.heap.size,2,none⟩ (.int .i64 (i:Int))).setCell ⟨w.heap.size,3,none⟩ (.bool false)).setCell ⟨w.heap.size,4,none⟩ (.slice none 0 0)).setCell ⟨w.heap.size,5,none⟩ (.slice none 0 0)) = wf at *
    refine bodyPost_ret (by simp [results,Tryz.results14,go_sem,f0,f1,f2,f3,f4,f5]; try rfl) rfl ?_
    exact ⟨_,_,_,_,_,_,_,_,_,_,rfl,(fun _ => ⟨one_same hlt hi (Uh HM),rfl⟩),hb⟩
   ·have tm:(((M[q]'hlt).toNat:Int) == ((s[i]'hi).toNat:Int)) = false:=by have:=(Uh HE).1; simp; omega
    have HM:=Hj hm
    have HMS:=Hj (And.intro hM' msz)
    have hq8:q < 9:=by omega
    clear g1 hm hM' msz
    go_wp2_with fail
    refine ⟨⟨q + 1,by omega,by (first | rfl | go_num),fun p hp => ?_,Hj trivial⟩,by simp [intOf]; omega⟩
    rcases Nat.lt_or_eq_of_le (Nat.le_of_lt_succ hp) with e | e
    ·have:=Uh HN p e
     rw [(Uh HMS).1] at this
     exact this
    ·rw [e]; exact Uh HM
  ·have hlt':¬ (q:Int) < (M.size:Int):=by omega
   have hq9:q = 9:=by omega
   have hER0:ER = 80:=by rw [← Uh HER,if_neg (by rw [mk_none (fun p hp => Uh HN p (by omega))]; decide)]
   subst hER0
   have HMS:=Hj (And.intro hM' msz)
   clear hM' msz hq9
   go_wp2_with fail
   obtain ⟨bO,bo⟩:=Uh HB
   have hf:=((((((bO).put 0 (.int .i64 0)).put 1 (.string ⟨#[]⟩)).put 2 (.int .i64 0)).put 3 (.bool false)).put 4 (.slice none 0 0)).put 5 (.slice none 0 0)
   have f0:=(hf.all 0 _ rfl).1
   have f1:=(hf.all 1 _ rfl).1
   have f2:=(hf.all 2 _ rfl).1
   have f3:=(hf.all 3 _ rfl).1
   have f4:=(hf.all 4 _ rfl).1
   have f5:=(hf.all 5 _ rfl).1
   have hb:=bel_put (bel_put (bel_put (bel_put (bel_put (bel_put (bo) (b:=w.heap.size) (Nat.le_refl _) (Nat.le_refl _) 0 (.int .i64 0)) (b:=w.heap.size) (Nat.le_refl _) (Nat.le_refl _) 1 (.string ⟨#[]⟩)) (b:=w.heap.size) (Nat.le_refl _) (Nat.le_refl _) 2 (.int .i64 0)) (b:=w.heap.size) (Nat.le_refl _) (Nat.le_refl _) 3 (.bool false)) (b:=w.heap.size) (Nat.le_refl _) (Nat.le_refl _) 4 (.slice none 0 0)) (b:=w.heap.size) (Nat.le_refl _) (Nat.le_refl _) 5 (.slice none 0 0)
   generalize ((((((wo.setCell ⟨w.heap.size,0,none⟩ (.int .i64 0)).setCell ⟨w.heap.size,1,none⟩ (.string ⟨#[]⟩)).setCell ⟨w.heap.size,2,none⟩ (.int .i64 0)).setCell ⟨w.heap.size,3,none⟩ (.bool false)).setCell ⟨w.heap.size,4,none⟩ (.slice none 0 0)).setCell ⟨w.heap.size,5,none⟩ (.slice none 0 0)) = wf at *
   refine bodyPost_ret (by simp [results,Tryz.results14,go_sem,f0,f1,f2,f3,f4,f5]; try rfl) rfl ?_
   exact ⟨_,_,_,_,_,_,_,_,_,_,rfl,(fun e => absurd e (by decide)),hb⟩
end Go.Proofs.YtjoaijbhpgekoaaGreatDoor
