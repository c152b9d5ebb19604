/- Ftf -/
import Derived.Test.YtjoaijbhpgekoaaGreatDoorFte
import Derived.Test.YtjoaijbhpgekoaaGreatDoorFt8a
import Derived.Test.YtjoaijbhpgekoaaGreatDoorRpd
namespace Go.Proofs.YtjoaijbhpgekoaaGreatDoor
open Go.RowKit Go.Deep
set_option linter.unusedVariables false
theorem dgt_kd {s:ByteArray} {q:Nat} (h:q < s.size):dgtN (byA s q) = true ↔ kdA s q = 1:=by
 rw [kd_one h]
 unfold dgtN
 rw [decide_eq_true_eq]
theorem wf_zero {g:Bool} {N D:Nat} (hD:0 < D) (hN:(limbs N).length ≤ 2048) (hD2:(limbs D).length ≤ 2048):(WfF g N D).2 = 0:=by rw [wf_same hD (by omega) (by omega)]
theorem pw_len {A:ByteArray} (h:A.size ≤ 1000) (hd:∀ q,q < A.size → 48 ≤ byA A q ∧ byA A q ≤ 57):(limbs (pwB A A.size)).length ≤ 1001:=by
 have h1:=pwB_lt (s:=A) (b:=A.size) (fun q hq => (hd q hq).2)
 have:=ten_len (v:=pwB A A.size) (n:=A.size) (by omega)
 omega
theorem parse_plain {T:ByteArray} {a:Nat} (hz:T.size ≤ 1000) (r:RunK T 0 a) (ha:0 < a) (he:a = T.size ∨ (byA T a = 46 ∧ a < T.size ∧ RunK T (a + 1) T.size ∧ a + 1 < T.size)):∃ rg rx ry,∀ W,Tab64 W → TabBh W → Calls Tryz.prog 27 #[.string T] W fun e w' => PsPost W w' rg rx ry 0 0 e:=by
 have ht:=r.top
 have h:Hd T false 0:=by
  refine ⟨(fun c => by cases c),(fun _ => ⟨rfl,?_⟩)⟩
  rw [r.all 0 (Nat.le_refl _) ha]
  decide
 have hs:T.size ≤ 65536:=by omega
 rcases he with he | ⟨h46,hlt,r2,h2⟩
 ·have t:=ok_end (mn_whole h r ha) he
  have TK:=tk_z h hs (by omega) t
  have hcat:=cat_nil (T.extract 0 T.size)
  have e0:T.extract 0 T.size = T:=ByteArray.extract_zero_size
  have hd:∀ q,q < T.size → 48 ≤ byA T q ∧ byA T q ≤ 57:=fun q hq => (kd_one hq).1 (r.all q (Nat.zero_le _) (by omega))
  have hre:=wf_zero (g:=false) (N:=pwB T T.size * 10 ^ 0) (D:=1) (by decide) (by rw [Nat.pow_zero,Nat.mul_one]; have:=pw_len hz hd; omega) (by rw [limbs_1]; decide)
  obtain ⟨Z,hZ⟩:∃ Z,WfF false (pwB T T.size * 10 ^ 0) 1 = Z:=⟨_,rfl⟩
  rw [hZ] at hre
  refine ⟨Z.1.1,Z.1.2.1,Z.1.2.2,fun W hT hB => ?_⟩
  have K:=rparse_up false T (T.extract 0 T.size) ⟨#[]⟩ ⟨#[]⟩ 0 0 0 W hs hT hB (by omega) (by decide) (by omega) TK (fun V => readPower_nil V) (by rw [hcat,e0]; omega) (by rw [hcat,e0]; omega) (by rw [hcat,e0]; exact hd)
  rw [hcat,e0,hZ,hre] at K
  exact K
 ·have h5:=(kd_five hlt).2 h46
  have t:=ok_end (mn_point h r ha h5 r2 h2) rfl
  have TK:=tk_p h hs ha hlt t
  have dd:=dig_app (run_dig r) (run_dig r2)
  have hsz:(T.extract 0 a ++ T.extract (a + 1) T.size).size = T.size - 1:=by
   rw [ByteArray.size_append,ByteArray.size_extract,ByteArray.size_extract]
   omega
  have hps:(T.extract (a + 1) T.size).size = T.size - a - 1:=by rw [ByteArray.size_extract]; omega
  have hre:=wf_zero (g:=false) (N:=pwB (T.extract 0 a ++ T.extract (a + 1) T.size) (T.extract 0 a ++ T.extract (a + 1) T.size).size) (D:=10 ^ (T.size - a - 1)) (Nat.pow_pos (by decide)) (by have:=pw_len (A:=T.extract 0 a ++ T.extract (a + 1) T.size) (by omega) dd; omega) (by have:=ten_len (v:=10 ^ (T.size - a - 1)) (n:=T.size - a - 1) (Nat.le_refl _); omega)
  obtain ⟨Z,hZ⟩:∃ Z,WfF false (pwB (T.extract 0 a ++ T.extract (a + 1) T.size) (T.extract 0 a ++ T.extract (a + 1) T.size).size) (10 ^ (T.size - a - 1)) = Z:=⟨_,rfl⟩
  rw [hZ] at hre
  refine ⟨Z.1.1,Z.1.2.1,Z.1.2.2,fun W hT hB => ?_⟩
  have K:=rparse_dn false T (T.extract 0 a) (T.extract (a + 1) T.size) ⟨#[]⟩ 0 (T.size - a - 1) 0 W hs hT hB (by omega) (by rw [hps]; omega) (by omega) (by omega) TK (fun V => readPower_nil V) (by omega) (by omega) dd
  rw [hZ,hre] at K
  exact K
theorem ltr_dgt {c:Nat} (h:dgtN c = true):ltrN c = false:=by
 unfold dgtN at h
 rw [decide_eq_true_eq] at h
 unfold ltrN
 rw [decide_eq_false_iff_not]
 omega
theorem plain_form {s:ByteArray} {i n:Nat} (hi:i < s.size) (hd:dgtN (byA s i) = true) (hn:plE (s.extract i s.size) 0 = n) (h0:0 < n):n ≤ 1000 ∧ i + n ≤ s.size ∧ ∃ a,RunK (s.extract i (i + n)) 0 a ∧ 0 < a ∧ (a = (s.extract i (i + n)).size ∨ (byA (s.extract i (i + n)) a = 46 ∧ a < (s.extract i (i + n)).size ∧ RunK (s.extract i (i + n)) (a + 1) (s.extract i (i + n)).size ∧ a + 1 < (s.extract i (i + n)).size)):=by
 have hz:(s.extract i s.size).size = s.size - i:=by rw [ByteArray.size_extract]; omega
 have h1:=enR_shift (p:=dgtN) (s:=s) (i:=i) (a:=0) (by omega)
 rw [Nat.add_zero] at h1
 have hgt:=dig_run hi hd rfl
 have rn:=enR_run dgtN s (i:=i) (by omega)
 obtain ⟨a,ha⟩:∃ a,enR dgtN (s.extract i s.size) 0 = a:=⟨_,rfl⟩
 rw [ha] at h1
 rw [h1] at hgt rn
 have hat:=rn.top
 unfold plE at hn
 dsimp only at hn
 simp only [ha,Nat.sub_zero] at hn
 have hTs:∀ m,i + m ≤ s.size → (s.extract i (i + m)).size = m:=fun m hm => by rw [ByteArray.size_extract]; omega
 have hTb:∀ m q,i + m ≤ s.size → q < m → byA (s.extract i (i + m)) q = byA s (i + q):=fun m q hm hq => byA_ext (by omega) hm
 by_cases c:a < (s.extract i s.size).size ∧ byA (s.extract i s.size) a = 46
 ·simp only [if_pos c] at hn
  have c2:byA s (i + a) = 46:=by rw [← ext_byte (by omega)]; exact c.2
  have h2:=enR_shift (p:=dgtN) (s:=s) (i:=i) (a:=a + 1) (by omega)
  have rk:=enR_run dgtN s (i:=i + (a + 1)) (by omega)
  obtain ⟨k,hk⟩:∃ k,enR dgtN (s.extract i s.size) (a + 1) = k:=⟨_,rfl⟩
  rw [hk] at h2
  rw [h2] at rk
  have hkl:=rk.le
  have hkt:=rk.top
  simp only [hk] at hn
  by_cases c3:k = a + 1
  ·simp only [if_pos c3] at hn
   split at hn <;> omega
  ·simp only [if_neg c3] at hn
   by_cases c4:1000 < k
   ·rw [if_pos c4] at hn; omega
   ·rw [if_neg c4] at hn
    subst hn
    have hT:=hTs k (by omega)
    refine ⟨by omega,by omega,a,⟨Nat.zero_le _,by omega,fun q h1' h2' => ?_,?_⟩,by omega,.inr ⟨?_,by omega,⟨by omega,Nat.le_refl _,fun q h1' h2' => ?_,?_⟩,by omega⟩⟩
    ·rw [← dgt_kd (by omega),hTb k q (by omega) (by omega)]
     exact rn.all (i + q) (by omega) (by omega)
    ·rw [Ne,← dgt_kd (by omega),hTb k a (by omega) (by omega),c2]
     decide
    ·rw [hTb k a (by omega) (by omega)]; exact c2
    ·rw [← dgt_kd (by omega),hTb k q (by omega) (by omega)]
     exact rk.all (i + q) (by omega) (by omega)
    ·rw [kdA_top]; decide
 ·simp only [if_neg c] at hn
  by_cases c4:1000 < a
  ·rw [if_pos c4] at hn; omega
  ·rw [if_neg c4] at hn
   subst hn
   have hT:=hTs a (by omega)
   refine ⟨by omega,by omega,a,⟨Nat.zero_le _,by omega,fun q h1' h2' => ?_,?_⟩,by omega,.inl (by omega)⟩
   ·rw [← dgt_kd (by omega),hTb a q (by omega) (by omega)]
    exact rn.all (i + q) (by omega) (by omega)
   ·have e:kdA (s.extract i (i + a)) a = 7:=by
     have:=kdA_top (s.extract i (i + a))
     rw [hT] at this
     exact this
    rw [e]; decide
set_option maxRecDepth 100000 in
set_option maxHeartbeats 32000000 in
theorem number_z (B:Nat) (s:ByteArray) (st:TkS) (v:Value) (cs:List Value) (n:Nat) (w:World) (hS:ScS w B 41 s st v cs) (hi:st.i + n ≤ s.size) (hs:s.size ≤ 65536) (hn:n = 0) :
  Calls Tryz.prog 16 #[.pointer (some ⟨B,0,none⟩),.int .i64 (n:Nat)] w fun e w' => e = .returned (fltV (st.i:Int) 81) ∧ Below w.heap.size w w':=by
 obtain ⟨wo,hwo⟩:∃ x,w.alloc (.cells #[.int .i64 0,.int .i64 0] 33) = x:=⟨_,rfl⟩
 have bo:Below w.heap.size w wo:=by rw [← hwo]; exact bAl
 have bO:BoxL wo w.heap.size [.int .i64 0,.int .i64 0]:=by have:=BoxL.made w #[.int .i64 0,.int .i64 0] 33; rw [hwo] at this; exact this
 have sS:=hS.below bo
 have hBl:=hS.box.lt
 have c0:=(sS.box.all 0 _ rfl).1
 have c1:=(sS.box.all 1 _ rfl).1
 have o0:=(bO.all 0 _ rfl).1
 have o0f:=(bO.all 0 _ rfl).2
 have o1:=(bO.all 1 _ rfl).1
 have o1f:=(bO.all 1 _ rfl).2
 have t1:(0:Int) ≤ (st.i:Int):=by omega
 have t2:(st.i:Int) ≤ (st.i:Int) + (n:Int):=by omega
 have t3:(st.i:Int) + (n:Int) ≤ (s.size:Int):=by omega
 have tw:IntKind.i64.wrap ((st.i:Int) + (n:Int)) = (st.i:Int) + (n:Int):=wrapI _ (by omega) (by omega)
 have t0:(0:Int) ≤ (st.i:Int) + (n:Int):=by omega
 have tn:((st.i:Int) + (n:Int)).toNat = st.i + n:=by omega
 obtain ⟨T,hT⟩:∃ T,s.extract st.i (st.i + n) = T:=⟨_,rfl⟩
 obtain ⟨R,hR⟩:∃ R,s.extract (st.i + n) s.size = R:=⟨_,rfl⟩
 have hRs:R.size = s.size - (st.i + n):=by rw [← hR,ByteArray.size_extract]; omega
 have hRb:∀ q,q < R.size → byA R q = byA s (st.i + n + q):=fun q hq => by rw [← hR]; exact byA_ext (by omega) (Nat.le_refl _)
 have tz:((n:Int) == 0) = true:=by simp; omega
 have HB:=Hj (And.intro bO (And.intro bo (And.intro hS sS)))
 have hTs:T.size = n:=by rw [← hT,ByteArray.size_extract]; omega
 have HTS:=Hj hTs
 clear hTs
 have HTR:=Hj (And.intro hT hR)
 clear bO bo hS sS hRs hRb hn
 go_enter Tryz.func16,Tryz.ntmps16
 go_wp2_with fail
 go_region
 go_wp2_with fail
 obtain ⟨bO,bo,hS,sS⟩:=Uh HB
 have hf:=((bO.put 0 (.int .i64 (st.i:Int))).put 1 (.int .i64 81)).below ((Below.refl _ _).drew)
 have f0:=(hf.all 0 _ rfl).1
 have f1:=(hf.all 1 _ rfl).1
 have hb:Below w.heap.size w (((wo.setCell ⟨w.heap.size,0,none⟩ (.int .i64 (st.i:Int))).setCell ⟨w.heap.size,1,none⟩ (.int .i64 81)).drew):=(bel_put (bel_put bo (by omega) (Nat.le_refl _) 0 _) (by omega) (Nat.le_refl _) 1 _).drew
 generalize (((wo.setCell ⟨w.heap.size,0,none⟩ (.int .i64 (st.i:Int))).setCell ⟨w.heap.size,1,none⟩ (.int .i64 81)).drew) = wf at *
 refine bodyPost_ret (by simp [results,Tryz.results16,go_sem,f0,f1]; try rfl) rfl ?_
 exact ⟨rfl,hb⟩
set_option maxRecDepth 100000 in
set_option maxHeartbeats 32000000 in
theorem number_l (B:Nat) (s:ByteArray) (st:TkS) (v:Value) (cs:List Value) (n:Nat) (w:World) (hS:ScS w B 41 s st v cs) (hi:st.i + n ≤ s.size) (hs:s.size ≤ 65536) (hn:0 < n) (hlt:st.i + n < s.size) (hL:ltrN (byA s (st.i + n)) = true) :
  Calls Tryz.prog 16 #[.pointer (some ⟨B,0,none⟩),.int .i64 (n:Nat)] w fun e w' => e = .returned (fltV (st.i:Int) 81) ∧ Below w.heap.size w w':=by
 obtain ⟨wo,hwo⟩:∃ x,w.alloc (.cells #[.int .i64 0,.int .i64 0] 33) = x:=⟨_,rfl⟩
 have bo:Below w.heap.size w wo:=by rw [← hwo]; exact bAl
 have bO:BoxL wo w.heap.size [.int .i64 0,.int .i64 0]:=by have:=BoxL.made w #[.int .i64 0,.int .i64 0] 33; rw [hwo] at this; exact this
 have sS:=hS.below bo
 have hBl:=hS.box.lt
 have c0:=(sS.box.all 0 _ rfl).1
 have c1:=(sS.box.all 1 _ rfl).1
 have o0:=(bO.all 0 _ rfl).1
 have o0f:=(bO.all 0 _ rfl).2
 have o1:=(bO.all 1 _ rfl).1
 have o1f:=(bO.all 1 _ rfl).2
 have t1:(0:Int) ≤ (st.i:Int):=by omega
 have t2:(st.i:Int) ≤ (st.i:Int) + (n:Int):=by omega
 have t3:(st.i:Int) + (n:Int) ≤ (s.size:Int):=by omega
 have tw:IntKind.i64.wrap ((st.i:Int) + (n:Int)) = (st.i:Int) + (n:Int):=wrapI _ (by omega) (by omega)
 have t0:(0:Int) ≤ (st.i:Int) + (n:Int):=by omega
 have tn:((st.i:Int) + (n:Int)).toNat = st.i + n:=by omega
 obtain ⟨T,hT⟩:∃ T,s.extract st.i (st.i + n) = T:=⟨_,rfl⟩
 obtain ⟨R,hR⟩:∃ R,s.extract (st.i + n) s.size = R:=⟨_,rfl⟩
 have hRs:R.size = s.size - (st.i + n):=by rw [← hR,ByteArray.size_extract]; omega
 have hRb:∀ q,q < R.size → byA R q = byA s (st.i + n + q):=fun q hq => by rw [← hR]; exact byA_ext (by omega) (Nat.le_refl _)
 have tz:((n:Int) == 0) = false:=by simp; omega
 have hR0:0 < R.size:=by omega
 have hR1:byA R 0 = byA s (st.i + n):=hRb 0 hR0
 have e1:=byA_get R 0 hR0
 have e2:(R[0]'hR0).toNat = byA R 0:=by omega
 have tr0:(0:Int) < (R.size:Int):=by omega
 have trn:=str_some (r:=R) (by omega)
 have KL:=fletter_any (R[0]'hR0).toNat wo.drew
 rw [e2,hR1,hL,← hR1,← e2] at KL
 have HB:=Hj (And.intro bO (And.intro bo (And.intro hS sS)))
 have HL:=Hj KL
 clear KL e1 e2 hR1
 have hTs:T.size = n:=by rw [← hT,ByteArray.size_extract]; omega
 have HTS:=Hj hTs
 clear hTs
 have HTR:=Hj (And.intro hT hR)
 clear bO bo hS sS hRs hRb hn
 clear hL hlt
 go_enter Tryz.func16,Tryz.ntmps16
 go_wp2_with fail
 go_region
 go_wp2_with fail
 refine (Uh HL).mono ?_
 rintro _ _ ⟨rfl,hw⟩
 obtain rfl:=hw.symm
 clear hw HL
 go_wp2_with fail
 obtain ⟨bO,bo,hS,sS⟩:=Uh HB
 have hf:=((bO.put 0 (.int .i64 (st.i:Int))).put 1 (.int .i64 81)).below ((Below.refl _ _).drew)
 have f0:=(hf.all 0 _ rfl).1
 have f1:=(hf.all 1 _ rfl).1
 have hb:Below w.heap.size w (((wo.setCell ⟨w.heap.size,0,none⟩ (.int .i64 (st.i:Int))).setCell ⟨w.heap.size,1,none⟩ (.int .i64 81)).drew):=(bel_put (bel_put bo (by omega) (Nat.le_refl _) 0 _) (by omega) (Nat.le_refl _) 1 _).drew
 generalize (((wo.setCell ⟨w.heap.size,0,none⟩ (.int .i64 (st.i:Int))).setCell ⟨w.heap.size,1,none⟩ (.int .i64 81)).drew) = wf at *
 refine bodyPost_ret (by simp [results,Tryz.results16,go_sem,f0,f1]; try rfl) rfl ?_
 exact ⟨rfl,hb⟩
set_option maxRecDepth 100000 in
set_option maxHeartbeats 32000000 in
theorem number_d (B:Nat) (s:ByteArray) (st:TkS) (v:Value) (cs:List Value) (n:Nat) (w:World) (hS:ScS w B 41 s st v cs) (hi:st.i + n ≤ s.size) (hs:s.size ≤ 65536) (hn:0 < n) (hlt:st.i + n < s.size) (hL:ltrN (byA s (st.i + n)) = false) (hD:byA s (st.i + n) = 46) :
  Calls Tryz.prog 16 #[.pointer (some ⟨B,0,none⟩),.int .i64 (n:Nat)] w fun e w' => e = .returned (fltV (st.i:Int) 81) ∧ Below w.heap.size w w':=by
 obtain ⟨wo,hwo⟩:∃ x,w.alloc (.cells #[.int .i64 0,.int .i64 0] 33) = x:=⟨_,rfl⟩
 have bo:Below w.heap.size w wo:=by rw [← hwo]; exact bAl
 have bO:BoxL wo w.heap.size [.int .i64 0,.int .i64 0]:=by have:=BoxL.made w #[.int .i64 0,.int .i64 0] 33; rw [hwo] at this; exact this
 have sS:=hS.below bo
 have hBl:=hS.box.lt
 have c0:=(sS.box.all 0 _ rfl).1
 have c1:=(sS.box.all 1 _ rfl).1
 have o0:=(bO.all 0 _ rfl).1
 have o0f:=(bO.all 0 _ rfl).2
 have o1:=(bO.all 1 _ rfl).1
 have o1f:=(bO.all 1 _ rfl).2
 have t1:(0:Int) ≤ (st.i:Int):=by omega
 have t2:(st.i:Int) ≤ (st.i:Int) + (n:Int):=by omega
 have t3:(st.i:Int) + (n:Int) ≤ (s.size:Int):=by omega
 have tw:IntKind.i64.wrap ((st.i:Int) + (n:Int)) = (st.i:Int) + (n:Int):=wrapI _ (by omega) (by omega)
 have t0:(0:Int) ≤ (st.i:Int) + (n:Int):=by omega
 have tn:((st.i:Int) + (n:Int)).toNat = st.i + n:=by omega
 obtain ⟨T,hT⟩:∃ T,s.extract st.i (st.i + n) = T:=⟨_,rfl⟩
 obtain ⟨R,hR⟩:∃ R,s.extract (st.i + n) s.size = R:=⟨_,rfl⟩
 have hRs:R.size = s.size - (st.i + n):=by rw [← hR,ByteArray.size_extract]; omega
 have hRb:∀ q,q < R.size → byA R q = byA s (st.i + n + q):=fun q hq => by rw [← hR]; exact byA_ext (by omega) (Nat.le_refl _)
 have tz:((n:Int) == 0) = false:=by simp; omega
 have hR0:0 < R.size:=by omega
 have hR1:byA R 0 = byA s (st.i + n):=hRb 0 hR0
 have e1:=byA_get R 0 hR0
 have e2:(R[0]'hR0).toNat = byA R 0:=by omega
 have tr0:(0:Int) < (R.size:Int):=by omega
 have trn:=str_some (r:=R) (by omega)
 have KL:=fletter_any (R[0]'hR0).toNat wo.drew
 rw [e2,hR1,hL,← hR1,← e2] at KL
 have tdt:(((R[0]'hR0).toNat:Int) == 46) = true:=by simp; omega
 have HB:=Hj (And.intro bO (And.intro bo (And.intro hS sS)))
 have HL:=Hj KL
 clear KL e1 e2 hR1
 have hTs:T.size = n:=by rw [← hT,ByteArray.size_extract]; omega
 have HTS:=Hj hTs
 clear hTs
 have HTR:=Hj (And.intro hT hR)
 clear bO bo hS sS hRs hRb hn
 clear hL hlt hD
 go_enter Tryz.func16,Tryz.ntmps16
 go_wp2_with fail
 go_region
 go_wp2_with fail
 refine (Uh HL).mono ?_
 rintro _ _ ⟨rfl,hw⟩
 obtain rfl:=hw.symm
 clear hw HL
 go_wp2_with fail
 obtain ⟨bO,bo,hS,sS⟩:=Uh HB
 have hf:=((bO.put 0 (.int .i64 (st.i:Int))).put 1 (.int .i64 81)).below ((Below.refl _ _).drew)
 have f0:=(hf.all 0 _ rfl).1
 have f1:=(hf.all 1 _ rfl).1
 have hb:Below w.heap.size w (((wo.setCell ⟨w.heap.size,0,none⟩ (.int .i64 (st.i:Int))).setCell ⟨w.heap.size,1,none⟩ (.int .i64 81)).drew):=(bel_put (bel_put bo (by omega) (Nat.le_refl _) 0 _) (by omega) (Nat.le_refl _) 1 _).drew
 generalize (((wo.setCell ⟨w.heap.size,0,none⟩ (.int .i64 (st.i:Int))).setCell ⟨w.heap.size,1,none⟩ (.int .i64 81)).drew) = wf at *
 refine bodyPost_ret (by simp [results,Tryz.results16,go_sem,f0,f1]; try rfl) rfl ?_
 exact ⟨rfl,hb⟩
set_option maxRecDepth 100000 in
set_option maxHeartbeats 32000000 in
theorem number_p (B:Nat) (s:ByteArray) (st:TkS) (v:Value) (cs:List Value) (n:Nat) (w:World) (hS:ScS w B 41 s st v cs) (hi:st.i + n ≤ s.size) (hs:s.size ≤ 65536) (hn:0 < n) (ht:st.i + n < s.size → ltrN (byA s (st.i + n)) = false ∧ byA s (st.i + n) ≠ 46) (U:ByteArray) (hTr:∀ W,Calls Tryz.prog 28 #[.string (s.extract st.i (st.i + n)),.string ⟨#[91,93]⟩] W fun e w' => e = .returned (.string U) ∧ Below W.heap.size W w') (rg:Bool) (rx ry:List Nat) (ra re:Int) (hP:∀ W,Below w.heap.size w W → Calls Tryz.prog 27 #[.string U] W fun e w' => PsPost W w' rg rx ry ra re e) (he:re ≠ 0) :
  Calls Tryz.prog 16 #[.pointer (some ⟨B,0,none⟩),.int .i64 (n:Nat)] w fun e w' => e = .returned (fltV (st.i:Int) 81) ∧ Below w.heap.size w w':=by
 obtain ⟨wo,hwo⟩:∃ x,w.alloc (.cells #[.int .i64 0,.int .i64 0] 33) = x:=⟨_,rfl⟩
 have bo:Below w.heap.size w wo:=by rw [← hwo]; exact bAl
 have bO:BoxL wo w.heap.size [.int .i64 0,.int .i64 0]:=by have:=BoxL.made w #[.int .i64 0,.int .i64 0] 33; rw [hwo] at this; exact this
 have sS:=hS.below bo
 have hBl:=hS.box.lt
 have c0:=(sS.box.all 0 _ rfl).1
 have c1:=(sS.box.all 1 _ rfl).1
 have o0:=(bO.all 0 _ rfl).1
 have o0f:=(bO.all 0 _ rfl).2
 have o1:=(bO.all 1 _ rfl).1
 have o1f:=(bO.all 1 _ rfl).2
 have t1:(0:Int) ≤ (st.i:Int):=by omega
 have t2:(st.i:Int) ≤ (st.i:Int) + (n:Int):=by omega
 have t3:(st.i:Int) + (n:Int) ≤ (s.size:Int):=by omega
 have tw:IntKind.i64.wrap ((st.i:Int) + (n:Int)) = (st.i:Int) + (n:Int):=wrapI _ (by omega) (by omega)
 have t0:(0:Int) ≤ (st.i:Int) + (n:Int):=by omega
 have tn:((st.i:Int) + (n:Int)).toNat = st.i + n:=by omega
 obtain ⟨T,hT⟩:∃ T,s.extract st.i (st.i + n) = T:=⟨_,rfl⟩
 obtain ⟨R,hR⟩:∃ R,s.extract (st.i + n) s.size = R:=⟨_,rfl⟩
 have hRs:R.size = s.size - (st.i + n):=by rw [← hR,ByteArray.size_extract]; omega
 have hRb:∀ q,q < R.size → byA R q = byA s (st.i + n + q):=fun q hq => by rw [← hR]; exact byA_ext (by omega) (Nat.le_refl _)
 have tz:((n:Int) == 0) = false:=by simp; omega
 have HB:=Hj (And.intro bO (And.intro bo (And.intro hS sS)))
 have hTs:T.size = n:=by rw [← hT,ByteArray.size_extract]; omega
 have HTS:=Hj hTs
 clear hTs
 have hRb0:0 < R.size → byA R 0 = byA s (st.i + n):=fun h => hRb 0 h
 have hRs0:=hRs
 have HTR:=Hj (And.intro hT hR)
 clear bO bo hS sS hRs hRb hn
 have HTr:=Hj hTr
 have HP:=Hj hP
 rw [hT] at HTr
 clear hTr hP
 have HHt:=Hj (fun (h:0 < R.size) => And.intro (show ltrN (byA R 0) = false by rw [hRb0 h]; exact (ht (by omega)).1) (show byA R 0 ≠ 46 by rw [hRb0 h]; exact (ht (by omega)).2))
 clear ht hRb0 hRs0
 by_cases h0:R.size = 0
 ·have trn:=str_nil h0
  clear h0
  go_enter Tryz.func16,Tryz.ntmps16
  go_wp2_with fail
  go_region
  go_wp2_with fail
  refine (Uh HTr _).mono ?_
  rintro _ w2 ⟨rfl,b2⟩
  obtain ⟨bO,bo,hS,sS⟩:=Uh HB
  have b2':Below wo.heap.size wo w2:=(Below.refl _ _).drew.trans b2
  have hw2:Below w.heap.size w w2:=bo.trans (b2'.mono bo.size)
  have KP:=Uh HP w2 hw2
  have HKP:=Hj KP
  have H2:=Hj (And.intro b2' hw2)
  clear bO bo hS sS b2 b2' hw2 KP HTr HP
  go_wp2_with fail
  refine (Uh HKP).mono ?_
  rintro _ w3 ⟨v8,rfl,aN,mN,cN,aD,mD,cD,rfl,sN,sD,nN,nD,b3⟩
  unfold ratV
  obtain ⟨w4,hw4⟩:∃ x,w3.alloc (.cells #[.bool rg,.slice aN mN cN,.slice aD mD cD] 39) = x:=⟨_,rfl⟩
  have b4:Below w3.heap.size w3 w4:=by rw [← hw4]; exact bAl
  have bV:BoxL w4 w3.heap.size [.bool rg,.slice aN mN cN,.slice aD mD cD]:=by have:=BoxL.made w3 #[.bool rg,.slice aN mN cN,.slice aD mD cD] 39; rw [hw4] at this; exact this
  obtain ⟨bO,bo,hS,sS⟩:=Uh HB
  have b34:Below wo.heap.size wo w4:=(Uh H2).1.trans ((b3.trans (b4.mono b3.size)).mono (Uh H2).1.size)
  have bO4:=bO.below b34
  have sS4:=sS.below b34
  have b04:Below w.heap.size w w4:=bo.trans (b34.mono bo.size)
  have v0:=(bV.all 0 _ rfl).1
  have v1:=(bV.all 1 _ rfl).1
  have v2:=(bV.all 2 _ rfl).1
  have d1:=(sS4.box.all 1 _ rfl).1
  have u0:=(bO4.all 0 _ rfl).1
  have u0f:=(bO4.all 0 _ rfl).2
  have u1:=(bO4.all 1 _ rfl).1
  have u1f:=(bO4.all 1 _ rfl).2
  have H4:=Hj (And.intro bO4 (And.intro sS4 (And.intro b04 hS)))
  have te:(re != 0) = true:=by simp; exact he
  have te':¬ re = 0:=he
  clear bO bo hS sS b3 b4 bV b34 bO4 sS4 b04 HKP sN sD nN nD o0 o0f o1 o1f
  go_wp2_with fail
  obtain ⟨bO4,sS4,b04,hS⟩:=Uh H4
  have hf:=(bO4.put 0 (.int .i64 (st.i:Int))).put 1 (.int .i64 81)
  have f0:=(hf.all 0 _ rfl).1
  have f1:=(hf.all 1 _ rfl).1
  have hb:Below w.heap.size w ((w4.setCell ⟨w.heap.size,0,none⟩ (.int .i64 (st.i:Int))).setCell ⟨w.heap.size,1,none⟩ (.int .i64 81)):=bel_put (bel_put b04 (by omega) (Nat.le_refl _) 0 _) (by omega) (Nat.le_refl _) 1 _
  generalize ((w4.setCell ⟨w.heap.size,0,none⟩ (.int .i64 (st.i:Int))).setCell ⟨w.heap.size,1,none⟩ (.int .i64 81)) = wf at *
  refine bodyPost_ret (by simp [results,Tryz.results16,go_sem,f0,f1]; try rfl) rfl ?_
  exact ⟨rfl,hb⟩
 ·have hR0:0 < R.size:=by omega
  have e1:=byA_get R 0 hR0
  have e2:(R[0]'hR0).toNat = byA R 0:=by omega
  have tr0:(0:Int) < (R.size:Int):=by omega
  have trn:=str_some (r:=R) h0
  have KL:=fun W => fletter_any (R[0]'hR0).toNat W
  rw [e2,(Uh HHt hR0).1,← e2] at KL
  have tdt:(((R[0]'hR0).toNat:Int) == 46) = false:=by have:=(Uh HHt hR0).2; simp; omega
  have tdt':¬ ((R[0]'hR0).toNat:Int) = 46:=by have:=(Uh HHt hR0).2; omega
  have HL:=Hj KL
  clear KL e1 e2 h0
  go_enter Tryz.func16,Tryz.ntmps16
  go_wp2_with fail
  go_region
  go_wp2_with fail
  refine (Uh HL _).mono ?_
  rintro _ _ ⟨rfl,hw⟩
  obtain rfl:=hw.symm
  clear hw HL
  go_wp2_with fail
  refine (Uh HTr _).mono ?_
  rintro _ w2 ⟨rfl,b2⟩
  obtain ⟨bO,bo,hS,sS⟩:=Uh HB
  have b2':Below wo.heap.size wo w2:=(Below.refl _ _).drew.trans b2
  have hw2:Below w.heap.size w w2:=bo.trans (b2'.mono bo.size)
  have KP:=Uh HP w2 hw2
  have HKP:=Hj KP
  have H2:=Hj (And.intro b2' hw2)
  clear bO bo hS sS b2 b2' hw2 KP HTr HP
  go_wp2_with fail
  refine (Uh HKP).mono ?_
  rintro _ w3 ⟨v8,rfl,aN,mN,cN,aD,mD,cD,rfl,sN,sD,nN,nD,b3⟩
  unfold ratV
  obtain ⟨w4,hw4⟩:∃ x,w3.alloc (.cells #[.bool rg,.slice aN mN cN,.slice aD mD cD] 39) = x:=⟨_,rfl⟩
  have b4:Below w3.heap.size w3 w4:=by rw [← hw4]; exact bAl
  have bV:BoxL w4 w3.heap.size [.bool rg,.slice aN mN cN,.slice aD mD cD]:=by have:=BoxL.made w3 #[.bool rg,.slice aN mN cN,.slice aD mD cD] 39; rw [hw4] at this; exact this
  obtain ⟨bO,bo,hS,sS⟩:=Uh HB
  have b34:Below wo.heap.size wo w4:=(Uh H2).1.trans ((b3.trans (b4.mono b3.size)).mono (Uh H2).1.size)
  have bO4:=bO.below b34
  have sS4:=sS.below b34
  have b04:Below w.heap.size w w4:=bo.trans (b34.mono bo.size)
  have v0:=(bV.all 0 _ rfl).1
  have v1:=(bV.all 1 _ rfl).1
  have v2:=(bV.all 2 _ rfl).1
  have d1:=(sS4.box.all 1 _ rfl).1
  have u0:=(bO4.all 0 _ rfl).1
  have u0f:=(bO4.all 0 _ rfl).2
  have u1:=(bO4.all 1 _ rfl).1
  have u1f:=(bO4.all 1 _ rfl).2
  have H4:=Hj (And.intro bO4 (And.intro sS4 (And.intro b04 hS)))
  have te:(re != 0) = true:=by simp; exact he
  have te':¬ re = 0:=he
  clear bO bo hS sS b3 b4 bV b34 bO4 sS4 b04 HKP sN sD nN nD o0 o0f o1 o1f
  go_wp2_with fail
  obtain ⟨bO4,sS4,b04,hS⟩:=Uh H4
  have hf:=(bO4.put 0 (.int .i64 (st.i:Int))).put 1 (.int .i64 81)
  have f0:=(hf.all 0 _ rfl).1
  have f1:=(hf.all 1 _ rfl).1
  have hb:Below w.heap.size w ((w4.setCell ⟨w.heap.size,0,none⟩ (.int .i64 (st.i:Int))).setCell ⟨w.heap.size,1,none⟩ (.int .i64 81)):=bel_put (bel_put b04 (by omega) (Nat.le_refl _) 0 _) (by omega) (Nat.le_refl _) 1 _
  generalize ((w4.setCell ⟨w.heap.size,0,none⟩ (.int .i64 (st.i:Int))).setCell ⟨w.heap.size,1,none⟩ (.int .i64 81)) = wf at *
  refine bodyPost_ret (by simp [results,Tryz.results16,go_sem,f0,f1]; try rfl) rfl ?_
  exact ⟨rfl,hb⟩
set_option maxRecDepth 100000 in
set_option maxHeartbeats 32000000 in
theorem number_full (B:Nat) (s:ByteArray) (st:TkS) (v:Value) (cs:List Value) (n:Nat) (w:World) (hS:ScS w B 41 s st v cs) (hi:st.i + n ≤ s.size) (hs:s.size ≤ 65536) (hn:0 < n) (ht:st.i + n < s.size → ltrN (byA s (st.i + n)) = false ∧ byA s (st.i + n) ≠ 46) (U:ByteArray) (hTr:∀ W,Calls Tryz.prog 28 #[.string (s.extract st.i (st.i + n)),.string ⟨#[91,93]⟩] W fun e w' => e = .returned (.string U) ∧ Below W.heap.size W w') (rg:Bool) (rx ry:List Nat) (ra re:Int) (hP:∀ W,Below w.heap.size w W → Calls Tryz.prog 27 #[.string U] W fun e w' => PsPost W w' rg rx ry ra re e) (he:re = 0) (hl:st.l.length = 16384) :
  Calls Tryz.prog 16 #[.pointer (some ⟨B,0,none⟩),.int .i64 (n:Nat)] w fun e w' => e = .returned (fltV (st.i:Int) 85) ∧ Below w.heap.size w w':=by
 obtain ⟨wo,hwo⟩:∃ x,w.alloc (.cells #[.int .i64 0,.int .i64 0] 33) = x:=⟨_,rfl⟩
 have bo:Below w.heap.size w wo:=by rw [← hwo]; exact bAl
 have bO:BoxL wo w.heap.size [.int .i64 0,.int .i64 0]:=by have:=BoxL.made w #[.int .i64 0,.int .i64 0] 33; rw [hwo] at this; exact this
 have sS:=hS.below bo
 have hBl:=hS.box.lt
 have c0:=(sS.box.all 0 _ rfl).1
 have c1:=(sS.box.all 1 _ rfl).1
 have o0:=(bO.all 0 _ rfl).1
 have o0f:=(bO.all 0 _ rfl).2
 have o1:=(bO.all 1 _ rfl).1
 have o1f:=(bO.all 1 _ rfl).2
 have t1:(0:Int) ≤ (st.i:Int):=by omega
 have t2:(st.i:Int) ≤ (st.i:Int) + (n:Int):=by omega
 have t3:(st.i:Int) + (n:Int) ≤ (s.size:Int):=by omega
 have tw:IntKind.i64.wrap ((st.i:Int) + (n:Int)) = (st.i:Int) + (n:Int):=wrapI _ (by omega) (by omega)
 have t0:(0:Int) ≤ (st.i:Int) + (n:Int):=by omega
 have tn:((st.i:Int) + (n:Int)).toNat = st.i + n:=by omega
 obtain ⟨T,hT⟩:∃ T,s.extract st.i (st.i + n) = T:=⟨_,rfl⟩
 obtain ⟨R,hR⟩:∃ R,s.extract (st.i + n) s.size = R:=⟨_,rfl⟩
 have hRs:R.size = s.size - (st.i + n):=by rw [← hR,ByteArray.size_extract]; omega
 have hRb:∀ q,q < R.size → byA R q = byA s (st.i + n + q):=fun q hq => by rw [← hR]; exact byA_ext (by omega) (Nat.le_refl _)
 have tz:((n:Int) == 0) = false:=by simp; omega
 have HB:=Hj (And.intro bO (And.intro bo (And.intro hS sS)))
 have hTs:T.size = n:=by rw [← hT,ByteArray.size_extract]; omega
 have HTS:=Hj hTs
 clear hTs
 have hRb0:0 < R.size → byA R 0 = byA s (st.i + n):=fun h => hRb 0 h
 have hRs0:=hRs
 have HTR:=Hj (And.intro hT hR)
 clear bO bo hS sS hRs hRb hn
 have HTr:=Hj hTr
 have HP:=Hj hP
 rw [hT] at HTr
 clear hTr hP
 have HHt:=Hj (fun (h:0 < R.size) => And.intro (show ltrN (byA R 0) = false by rw [hRb0 h]; exact (ht (by omega)).1) (show byA R 0 ≠ 46 by rw [hRb0 h]; exact (ht (by omega)).2))
 clear ht hRb0 hRs0
 by_cases h0:R.size = 0
 ·have trn:=str_nil h0
  clear h0
  go_enter Tryz.func16,Tryz.ntmps16
  go_wp2_with fail
  go_region
  go_wp2_with fail
  refine (Uh HTr _).mono ?_
  rintro _ w2 ⟨rfl,b2⟩
  obtain ⟨bO,bo,hS,sS⟩:=Uh HB
  have b2':Below wo.heap.size wo w2:=(Below.refl _ _).drew.trans b2
  have hw2:Below w.heap.size w w2:=bo.trans (b2'.mono bo.size)
  have KP:=Uh HP w2 hw2
  have HKP:=Hj KP
  have H2:=Hj (And.intro b2' hw2)
  clear bO bo hS sS b2 b2' hw2 KP HTr HP
  go_wp2_with fail
  refine (Uh HKP).mono ?_
  rintro _ w3 ⟨v8,rfl,aN,mN,cN,aD,mD,cD,rfl,sN,sD,nN,nD,b3⟩
  unfold ratV
  obtain ⟨w4,hw4⟩:∃ x,w3.alloc (.cells #[.bool rg,.slice aN mN cN,.slice aD mD cD] 39) = x:=⟨_,rfl⟩
  have b4:Below w3.heap.size w3 w4:=by rw [← hw4]; exact bAl
  have bV:BoxL w4 w3.heap.size [.bool rg,.slice aN mN cN,.slice aD mD cD]:=by have:=BoxL.made w3 #[.bool rg,.slice aN mN cN,.slice aD mD cD] 39; rw [hw4] at this; exact this
  obtain ⟨bO,bo,hS,sS⟩:=Uh HB
  have b34:Below wo.heap.size wo w4:=(Uh H2).1.trans ((b3.trans (b4.mono b3.size)).mono (Uh H2).1.size)
  have bO4:=bO.below b34
  have sS4:=sS.below b34
  have b04:Below w.heap.size w w4:=bo.trans (b34.mono bo.size)
  have v0:=(bV.all 0 _ rfl).1
  have v1:=(bV.all 1 _ rfl).1
  have v2:=(bV.all 2 _ rfl).1
  have d1:=(sS4.box.all 1 _ rfl).1
  have u0:=(bO4.all 0 _ rfl).1
  have u0f:=(bO4.all 0 _ rfl).2
  have u1:=(bO4.all 1 _ rfl).1
  have u1f:=(bO4.all 1 _ rfl).2
  have H4:=Hj (And.intro bO4 (And.intro sS4 (And.intro b04 hS)))
  have K1:=take_full B s st v cs 3 T 0 rg aN aD mN cN mD cD w4 sS4 hl
  unfold fltV at K1
  have HK1:=Hj K1
  clear bO bo hS sS b3 b4 bV b34 bO4 sS4 b04 HKP sN sD nN nD K1 o0 o0f o1 o1f
  subst he
  go_wp2_with fail
  refine (Uh HK1).mono ?_
  clear HK1
  rintro _ w5 ⟨rfl,b5⟩
  obtain ⟨bO4,sS4,b04,hS⟩:=Uh H4
  have bY:=bO4.below b5
  have cY:Below w.heap.size w w5:=b04.trans (b5.mono b04.size)
  have q0:=(bY.all 0 _ rfl).1
  have q0f:=(bY.all 0 _ rfl).2
  have q1:=(bY.all 1 _ rfl).1
  have q1f:=(bY.all 1 _ rfl).2
  have HF:=Hj (And.intro bY cY)
  clear bO4 sS4 b04 hS b5 bY cY u0 u0f u1 u1f
  go_wp2_with fail
  obtain ⟨bY,cY⟩:=Uh HF
  have hf:=(bY.put 0 (.int .i64 (st.i:Int))).put 1 (.int .i64 85)
  have f0:=(hf.all 0 _ rfl).1
  have f1:=(hf.all 1 _ rfl).1
  have hb:Below w.heap.size w ((w5.setCell ⟨w.heap.size,0,none⟩ (.int .i64 (st.i:Int))).setCell ⟨w.heap.size,1,none⟩ (.int .i64 85)):=bel_put (bel_put cY (by omega) (Nat.le_refl _) 0 _) (by omega) (Nat.le_refl _) 1 _
  generalize ((w5.setCell ⟨w.heap.size,0,none⟩ (.int .i64 (st.i:Int))).setCell ⟨w.heap.size,1,none⟩ (.int .i64 85)) = wf at *
  refine bodyPost_ret (by simp [results,Tryz.results16,go_sem,f0,f1]; try rfl) rfl ?_
  exact ⟨rfl,hb⟩
 ·have hR0:0 < R.size:=by omega
  have e1:=byA_get R 0 hR0
  have e2:(R[0]'hR0).toNat = byA R 0:=by omega
  have tr0:(0:Int) < (R.size:Int):=by omega
  have trn:=str_some (r:=R) h0
  have KL:=fun W => fletter_any (R[0]'hR0).toNat W
  rw [e2,(Uh HHt hR0).1,← e2] at KL
  have tdt:(((R[0]'hR0).toNat:Int) == 46) = false:=by have:=(Uh HHt hR0).2; simp; omega
  have tdt':¬ ((R[0]'hR0).toNat:Int) = 46:=by have:=(Uh HHt hR0).2; omega
  have HL:=Hj KL
  clear KL e1 e2 h0
  go_enter Tryz.func16,Tryz.ntmps16
  go_wp2_with fail
  go_region
  go_wp2_with fail
  refine (Uh HL _).mono ?_
  rintro _ _ ⟨rfl,hw⟩
  obtain rfl:=hw.symm
  clear hw HL
  go_wp2_with fail
  refine (Uh HTr _).mono ?_
  rintro _ w2 ⟨rfl,b2⟩
  obtain ⟨bO,bo,hS,sS⟩:=Uh HB
  have b2':Below wo.heap.size wo w2:=(Below.refl _ _).drew.trans b2
  have hw2:Below w.heap.size w w2:=bo.trans (b2'.mono bo.size)
  have KP:=Uh HP w2 hw2
  have HKP:=Hj KP
  have H2:=Hj (And.intro b2' hw2)
  clear bO bo hS sS b2 b2' hw2 KP HTr HP
  go_wp2_with fail
  refine (Uh HKP).mono ?_
  rintro _ w3 ⟨v8,rfl,aN,mN,cN,aD,mD,cD,rfl,sN,sD,nN,nD,b3⟩
  unfold ratV
  obtain ⟨w4,hw4⟩:∃ x,w3.alloc (.cells #[.bool rg,.slice aN mN cN,.slice aD mD cD] 39) = x:=⟨_,rfl⟩
  have b4:Below w3.heap.size w3 w4:=by rw [← hw4]; exact bAl
  have bV:BoxL w4 w3.heap.size [.bool rg,.slice aN mN cN,.slice aD mD cD]:=by have:=BoxL.made w3 #[.bool rg,.slice aN mN cN,.slice aD mD cD] 39; rw [hw4] at this; exact this
  obtain ⟨bO,bo,hS,sS⟩:=Uh HB
  have b34:Below wo.heap.size wo w4:=(Uh H2).1.trans ((b3.trans (b4.mono b3.size)).mono (Uh H2).1.size)
  have bO4:=bO.below b34
  have sS4:=sS.below b34
  have b04:Below w.heap.size w w4:=bo.trans (b34.mono bo.size)
  have v0:=(bV.all 0 _ rfl).1
  have v1:=(bV.all 1 _ rfl).1
  have v2:=(bV.all 2 _ rfl).1
  have d1:=(sS4.box.all 1 _ rfl).1
  have u0:=(bO4.all 0 _ rfl).1
  have u0f:=(bO4.all 0 _ rfl).2
  have u1:=(bO4.all 1 _ rfl).1
  have u1f:=(bO4.all 1 _ rfl).2
  have H4:=Hj (And.intro bO4 (And.intro sS4 (And.intro b04 hS)))
  have K1:=take_full B s st v cs 3 T 0 rg aN aD mN cN mD cD w4 sS4 hl
  unfold fltV at K1
  have HK1:=Hj K1
  clear bO bo hS sS b3 b4 bV b34 bO4 sS4 b04 HKP sN sD nN nD K1 o0 o0f o1 o1f
  subst he
  go_wp2_with fail
  refine (Uh HK1).mono ?_
  clear HK1
  rintro _ w5 ⟨rfl,b5⟩
  obtain ⟨bO4,sS4,b04,hS⟩:=Uh H4
  have bY:=bO4.below b5
  have cY:Below w.heap.size w w5:=b04.trans (b5.mono b04.size)
  have q0:=(bY.all 0 _ rfl).1
  have q0f:=(bY.all 0 _ rfl).2
  have q1:=(bY.all 1 _ rfl).1
  have q1f:=(bY.all 1 _ rfl).2
  have HF:=Hj (And.intro bY cY)
  clear bO4 sS4 b04 hS b5 bY cY u0 u0f u1 u1f
  go_wp2_with fail
  obtain ⟨bY,cY⟩:=Uh HF
  have hf:=(bY.put 0 (.int .i64 (st.i:Int))).put 1 (.int .i64 85)
  have f0:=(hf.all 0 _ rfl).1
  have f1:=(hf.all 1 _ rfl).1
  have hb:Below w.heap.size w ((w5.setCell ⟨w.heap.size,0,none⟩ (.int .i64 (st.i:Int))).setCell ⟨w.heap.size,1,none⟩ (.int .i64 85)):=bel_put (bel_put cY (by omega) (Nat.le_refl _) 0 _) (by omega) (Nat.le_refl _) 1 _
  generalize ((w5.setCell ⟨w.heap.size,0,none⟩ (.int .i64 (st.i:Int))).setCell ⟨w.heap.size,1,none⟩ (.int .i64 85)) = wf at *
  refine bodyPost_ret (by simp [results,Tryz.results16,go_sem,f0,f1]; try rfl) rfl ?_
  exact ⟨rfl,hb⟩
end Go.Proofs.YtjoaijbhpgekoaaGreatDoor
