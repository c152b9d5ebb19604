/- Rpk -/
import Derived.Test.YtjoaijbhpgekoaaGreatDoorRpb
import Derived.Test.YtjoaijbhpgekoaaGreatDoorRpd
import Derived.Test.YtjoaijbhpgekoaaGreatDoorRu3
import Derived.Test.YtjoaijbhpgekoaaGreatDoorRp4
import Derived.Test.YtjoaijbhpgekoaaGreatDoorRq0
namespace Go.Proofs.YtjoaijbhpgekoaaGreatDoor
open Go.RowKit Go.Deep
set_option linter.unusedVariables false
theorem pwB_zero {s:ByteArray}:∀ {z:Nat},(∀ q,q < z → byA s q = 48) → pwB s z = 0
 | 0,_ => rfl
 | z + 1,h => by
  show 10 * pwB s z + (byA s z - 48) = 0
  rw [pwB_zero (fun q hq => h q (by omega)),h z (by omega)]
def WfF (g:Bool) (N D:Nat):(Bool × List Nat × List Nat) × Int:=if 2048 < (limbs N).length ∨ 2048 < (limbs D).length then ((false,[],[]),2) else lowF g N D
theorem dig_by {s:ByteArray} {i:Nat} (h1:48 ≤ byA s i) (h2:byA s i ≤ 57):dig s i = byA s i - 48:=by
 show digitN (byA s i) = _
 unfold digitN
 generalize byA s i = c at *
 repeat (first | split | omega)
theorem num_pw {s:ByteArray}:∀ {k:Nat},(∀ q,q < k → 48 ≤ byA s q ∧ byA s q ≤ 57) → numP s 10 k = pwB s k
 | 0,_ => rfl
 | k + 1,h => by
  have h1:=num_pw (s:=s) (k:=k) (fun q hq => h q (by omega))
  obtain ⟨g1,g2⟩:=h k (by omega)
  show numS s 10 0 (k + 1) = 10 * pwB s k + (byA s k - 48)
  unfold numS
  rw [show numS s 10 0 k = numP s 10 k from rfl,h1,Nat.zero_add,dig_by g1 g2]
  omega
theorem pa_of {s:ByteArray} (h0:0 < s.size) (hs:s.size ≤ 65536) (hd:∀ q,q < s.size → 48 ≤ byA s q ∧ byA s q ≤ 57):PaIs s 10 (fitL (pwB s s.size)).1 0 (fitL (pwB s s.size)).2:=by
 refine .read _ _ hs h0 ⟨by decide,by decide⟩ (fun j hj => ?_) ?_
 ·obtain ⟨g1,g2⟩:=hd j hj
  rw [dig_by g1 g2]
  show byA s j - 48 < 10
  omega
 ·rw [show ((10:Int).toNat) = 10 from rfl,num_pw hd]
theorem limbs_nz {N:Nat} (h:N ≠ 0):limbs N ≠ []:=fun e => by
 have h1:=limbs_v N
 rw [e] at h1
 simp [val] at h1
 omega
theorem small_not_big {a b:Nat} (h:a ≤ b) (k:¬ 2048 < (limbs b).length):bigN a = false:=by
 have:=limbs_len_le h
 unfold bigN
 simp
 omega
theorem low_same {g:Bool} {N D:Nat} (hD:0 < D) (hN:¬ 2048 < (limbs N).length) (hD2:¬ 2048 < (limbs D).length):lowF g N D = ((g && decide (limbs N ≠ []),limbs (N / Nat.gcd N D),limbs (D / Nat.gcd N D)),0):=by
 unfold lowF
 by_cases h:N = 0
 ·subst h
  rw [if_pos rfl,Nat.gcd_zero_left,Nat.zero_div,Nat.div_self hD]
  have e:limbs 0 = []:=rfl
  rw [e,limbs_1]
  simp
 ·rw [if_neg h,small_not_big (Nat.div_le_self _ _) hN,small_not_big (Nat.div_le_self _ _) hD2]
  have:=limbs_nz h
  simp [this]
theorem wf_same {g:Bool} {N D:Nat} (hD:0 < D) (hN:¬ 2048 < (limbs N).length) (hD2:¬ 2048 < (limbs D).length):WfF g N D = ((g && decide (limbs N ≠ []),limbs (N / Nat.gcd N D),limbs (D / Nat.gcd N D)),0):=by
 unfold WfF
 rw [if_neg (by omega),low_same hD hN hD2]
theorem wf_big {g:Bool} {N D:Nat} (h:2048 < (limbs N).length ∨ 2048 < (limbs D).length):WfF g N D = ((false,[],[]),2):=if_pos h
theorem first_is {x:ByteArray} (h:0 < x.size):((x.extract 0 1).toList == [45]) = decide (byA x 0 = 45):=by
 rw [Lib.extract_toList]
 cases x with
 | mk a =>
  cases a with
  | mk l =>
   cases l with
   | nil => simp [ByteArray.size] at h
   | cons c r =>
    have e:byA ⟨⟨c :: r⟩⟩ 0 = c.toNat:=rfl
    rw [e]
    simp
    by_cases h2:c = 45
    ·subst h2; rfl
    ·have h3:¬ c.toNat = 45:=fun k => h2 (UInt8.toNat_inj.1 k)
     simp [h2,h3]
theorem kd_two {s:ByteArray} {i:Nat} (h:i < s.size):kdA s i = 2 ↔ byA s i = 45:=by
 unfold kdA
 rw [if_neg (by omega)]
 unfold kdN
 constructor
 ·intro k
  revert k
  repeat (first | split | (intro k; omega))
 ·intro k
  rw [k]
  rfl
theorem trim_head {s:ByteArray} {g:Bool} {i e:Nat} (h:Hd s g i) (hs:s.size ≤ 65536) (hi:i < e) (he:e ≤ s.size) (W:World) :
  Calls Tryz.prog 55 #[.string (s.extract 0 e),.string ⟨#[45]⟩] W fun r w' => r = .returned (.string (s.extract i e)) ∧ w' = W:=by
 have hz:(s.extract 0 e).size = e:=by rw [ByteArray.size_extract]; omega
 have hb:byA (s.extract 0 e) 0 = byA s 0:=by rw [byA_ext (by omega) he]
 have hf:=first_is (x:=s.extract 0 e) (by omega)
 rw [hb] at hf
 cases g
 ·obtain ⟨rfl,h0⟩:=h.no rfl
  have hn:¬ byA s 0 = 45:=fun c => h0 ((kd_two (by omega)).2 c)
  exact trimPrefix_no (s.extract 0 e) W (by rw [hf]; simp [hn])
 ·obtain ⟨rfl,h0⟩:=h.yes rfl
  have hn:byA s 0 = 45:=(kd_two (by omega)).1 h0
  have K:=trimPrefix_yes (s.extract 0 e) W (by omega) (by omega) (by rw [hf]; simp [hn])
  have ee:(s.extract 0 e).extract 1 (s.extract 0 e).size = s.extract 1 e:=by
   rw [hz,ByteArray.extract_extract]
   simp
  rw [ee] at K
  exact K
theorem mayL_fit {N:Nat} (h:¬ 2048 < (limbs N).length):MayL (limbs N) = true:=MayL.mk (limbs_norm _) (by omega)
theorem fit_two {N:Nat} (h:2048 < (limbs N).length):fitL N = ([],2):=fitL_big h
theorem ps_eq {w w':World} {r:(Bool × List Nat × List Nat) × Int} {g:Bool} {x y:List Nat} {a er:Int} {e:Ending} (h:r = ((g,x,y),er)) (k:PsPost w w' g x y a er e):PsPost w w' r.1.1 r.1.2.1 r.1.2.2 a r.2 e:=by
 subst h
 exact k
theorem rparse_dn (g:Bool) (s D PL PW:ByteArray) (LT Q:Nat) (P:Int) (w:World) (hs:s.size ≤ 65536) (hT:Tab64 w) (hTB:TabBh w) (hP:-4096 ≤ P ∧ P ≤ 4096) (hQ:P - (PL.size:Int) = -(Q:Int)) (hQ0:0 < Q) (hQ1:Q ≤ 1048576)
  (hTk:∀ W,TabBh W → Calls Tryz.prog 36 #[.string s] W fun e w' => e = .returned (.tuple #[.agg #[.bool g,.string D,.int .i64 ((0:Nat):Int),.string ⟨#[]⟩,.string PL,.int .i64 (LT:Nat),.string PW],.int .i64 0,.bool true]) ∧ Below W.heap.size W w')
  (hRp:∀ W,Calls Tryz.prog 37 #[.string PW] W fun e w' => e = .returned (.tuple #[.int .i64 P,.bool true]) ∧ Below W.heap.size W w')
  (h0:0 < (D ++ PL).size) (hz:(D ++ PL).size ≤ 65536) (hd:∀ q,q < (D ++ PL).size → 48 ≤ byA (D ++ PL) q ∧ byA (D ++ PL) q ≤ 57) :
  Calls Tryz.prog 27 #[.string s] w fun e w' => PsPost w w' (WfF g (pwB (D ++ PL) (D ++ PL).size) (10 ^ Q)).1.1 (WfF g (pwB (D ++ PL) (D ++ PL).size) (10 ^ Q)).1.2.1 (WfF g (pwB (D ++ PL) (D ++ PL).size) (10 ^ Q)).1.2.2 0 (WfF g (pwB (D ++ PL) (D ++ PL).size) (10 ^ Q)).2 e:=by
 have hpa:=pa_of h0 hz hd
 obtain ⟨V,hV⟩:∃ V,pwB (D ++ PL) (D ++ PL).size = V:=⟨_,rfl⟩
 rw [hV] at hpa ⊢
 have hten:0 < 10 ^ Q:=Nat.pow_pos (by decide)
 by_cases hN:2048 < (limbs V).length
 ·rw [fit_two hN] at hpa
  rw [wf_big (.inl hN)]
  exact parse_zE g s D ⟨#[]⟩ PL PW 0 LT w hs hT hTB hTk rfl P hRp [] [] 2 (by decide) fun W => written_bad g D ⟨#[]⟩ PL PW 0 LT P _ W hP 2 hz hpa (by decide)
 ·rw [fitL_ok hN] at hpa
  have KW:=fun W => written_dn g D ⟨#[]⟩ PL PW 0 LT P (limbs V) W hP Q hpa rfl hQ hQ0 hQ1
  by_cases hD:2048 < (limbs (10 ^ Q)).length
  ·rw [fit_two hD] at KW
   rw [wf_big (.inr hD)]
   exact parse_zE g s D ⟨#[]⟩ PL PW 0 LT w hs hT hTB hTk rfl P hRp (limbs V) [] 2 (by decide) KW
  ·rw [fitL_ok hD] at KW
   have K:=parse_zF g s D ⟨#[]⟩ PL PW 0 LT w hs hT hTB hTk rfl P hRp (limbs V) (limbs (10 ^ Q)) (limbs_ok _) (limbs_ok _) (mayL_fit hN) (mayL_fit hD) (limbs_nz (by omega)) KW
   rw [limbs_v,limbs_v] at K
   exact K.mono fun e w' h => ps_eq (wf_same hten hN hD) h
theorem rparse_up (g:Bool) (s D PL PW:ByteArray) (LT Q:Nat) (P:Int) (w:World) (hs:s.size ≤ 65536) (hT:Tab64 w) (hTB:TabBh w) (hP:-4096 ≤ P ∧ P ≤ 4096) (hQ:P - (PL.size:Int) = (Q:Int)) (hQ1:Q ≤ 4096)
  (hTk:∀ W,TabBh W → Calls Tryz.prog 36 #[.string s] W fun e w' => e = .returned (.tuple #[.agg #[.bool g,.string D,.int .i64 ((0:Nat):Int),.string ⟨#[]⟩,.string PL,.int .i64 (LT:Nat),.string PW],.int .i64 0,.bool true]) ∧ Below W.heap.size W w')
  (hRp:∀ W,Calls Tryz.prog 37 #[.string PW] W fun e w' => e = .returned (.tuple #[.int .i64 P,.bool true]) ∧ Below W.heap.size W w')
  (h0:0 < (D ++ PL).size) (hz:(D ++ PL).size ≤ 65536) (hd:∀ q,q < (D ++ PL).size → 48 ≤ byA (D ++ PL) q ∧ byA (D ++ PL) q ≤ 57) :
  Calls Tryz.prog 27 #[.string s] w fun e w' => PsPost w w' (WfF g (pwB (D ++ PL) (D ++ PL).size * 10 ^ Q) 1).1.1 (WfF g (pwB (D ++ PL) (D ++ PL).size * 10 ^ Q) 1).1.2.1 (WfF g (pwB (D ++ PL) (D ++ PL).size * 10 ^ Q) 1).1.2.2 0 (WfF g (pwB (D ++ PL) (D ++ PL).size * 10 ^ Q) 1).2 e:=by
 have hpa:=pa_of h0 hz hd
 obtain ⟨V,hV⟩:∃ V,pwB (D ++ PL) (D ++ PL).size = V:=⟨_,rfl⟩
 rw [hV] at hpa ⊢
 have hten:0 < 10 ^ Q:=Nat.pow_pos (by decide)
 have hVN:V ≤ V * 10 ^ Q:=Nat.le_mul_of_pos_right _ hten
 by_cases hN:2048 < (limbs V).length
 ·rw [fit_two hN] at hpa
  rw [wf_big (.inl (Nat.lt_of_lt_of_le hN (limbs_len_le hVN)))]
  exact parse_zE g s D ⟨#[]⟩ PL PW 0 LT w hs hT hTB hTk rfl P hRp [] [] 2 (by decide) fun W => written_bad g D ⟨#[]⟩ PL PW 0 LT P _ W hP 2 hz hpa (by decide)
 ·rw [fitL_ok hN] at hpa
  have KW:=fun W => written_up g D ⟨#[]⟩ PL PW 0 LT P (limbs V) W hP Q (limbs_ok _) (mayL_fit hN) hpa rfl hQ hQ1
  rw [limbs_v] at KW
  by_cases hD:2048 < (limbs (V * 10 ^ Q)).length
  ·rw [fit_two hD] at KW
   rw [wf_big (.inl hD)]
   exact parse_zE g s D ⟨#[]⟩ PL PW 0 LT w hs hT hTB hTk rfl P hRp [] [1] 2 (by decide) KW
  ·rw [fitL_ok hD] at KW
   have K:=parse_zF g s D ⟨#[]⟩ PL PW 0 LT w hs hT hTB hTk rfl P hRp (limbs (V * 10 ^ Q)) [1] (limbs_ok _) (by rw [← limbs_1]; exact limbs_ok _) (mayL_fit hD) (by decide) (by decide) KW
   rw [limbs_v,show val [1] = 1 from by simp [val]] at K
   exact K.mono fun e w' h => ps_eq (wf_same (by decide) hD (by rw [limbs_1]; decide)) h
theorem dw_nil {p:UInt8 → Bool}:∀ {l:List UInt8},l.dropWhile p = [] ↔ ∀ c ∈ l,p c = true
 | [] => by simp
 | a :: l => by
  cases h:p a with
  | true =>
   rw [List.dropWhile_cons_of_pos h,dw_nil]
   simp [h]
  | false =>
   rw [List.dropWhile_cons_of_neg (by simp [h])]
   simp [h]
theorem dw_keeps {p:UInt8 → Bool} {c:UInt8} (hc:p c = false):∀ {l:List UInt8},c ∈ l → c ∈ l.dropWhile p
 | a :: l,h => by
  cases k:p a with
  | true =>
   rw [List.dropWhile_cons_of_pos k]
   rcases List.mem_cons.1 h with e | e
   ·rw [e,k] at hc; cases hc
   ·exact dw_keeps hc e
  | false =>
   rw [List.dropWhile_cons_of_neg (by simp [k])]
   exact h
theorem trimS_nil {l cs:List UInt8}:Lib.trimS l cs = [] ↔ ∀ c ∈ l,cs.contains c = true:=by
 unfold Lib.trimS Lib.trimLeftS Lib.trimRightS
 rw [dw_nil]
 constructor
 ·intro h c hc
  cases k:cs.contains c with
  | true => rfl
  | false =>
   have h1:=h c (List.mem_reverse.2 (dw_keeps (p:=(cs.contains ·)) k (List.mem_reverse.2 hc)))
   rw [k] at h1
   cases h1
 ·intro h c hc
  have h1:=List.mem_reverse.1 hc
  have h2:c ∈ l.reverse:=(List.dropWhile_sublist _).subset h1
  exact h c (List.mem_reverse.1 h2)
theorem pwB_nil {s:ByteArray}:∀ {k:Nat},(∀ q,q < k → 48 ≤ byA s q) → (pwB s k = 0 ↔ ∀ q,q < k → byA s q = 48)
 | 0,_ => ⟨fun _ q hq => by omega,fun _ => rfl⟩
 | k + 1,h => by
  have h1:=pwB_nil (s:=s) (k:=k) (fun q hq => h q (by omega))
  have h2:=h k (by omega)
  constructor
  ·intro e q hq
   have e':10 * pwB s k + (byA s k - 48) = 0:=e
   rcases Nat.lt_or_eq_of_le (Nat.le_of_lt_succ hq) with a | a
   ·exact h1.1 (by omega) q a
   ·rw [a]; omega
  ·intro a
   exact pwB_zero a
theorem mem_byA {s:ByteArray}:(∀ c ∈ s.data.toList,([48]:List UInt8).contains c = true) ↔ ∀ q,q < s.size → byA s q = 48:=by
 cases s with
 | mk a =>
  constructor
  ·intro h q hq
   have hq':q < a.size:=hq
   have h1:=h (a[q]'hq') (by simp)
   have h2:(a[q]'hq') = 48:=by simpa using h1
   show (a[q]!).toNat = 48
   rw [getElem!_pos a q hq',h2]
   rfl
  ·intro h c hc
   obtain ⟨q,hq,e⟩:=List.mem_iff_getElem.1 hc
   have hq':q < a.size:=by simpa using hq
   have h1:(a[q]!).toNat = 48:=h q hq'
   rw [getElem!_pos a q hq'] at h1
   have h2:c.toNat = 48:=by rw [← e]; simpa using h1
   have h3:c = 48:=UInt8.toNat_inj.1 h2
   rw [h3]
   rfl
theorem trim_zero {s:ByteArray} (hd:∀ q,q < s.size → 48 ≤ byA s q ∧ byA s q ≤ 57):(⟨(Lib.trimS s.data.toList [48]).toArray⟩:ByteArray).size = 0 ↔ pwB s s.size = 0:=by
 rw [pwB_nil (fun q hq => (hd q hq).1),← mem_byA,← trimS_nil]
 show (Lib.trimS s.data.toList [48]).toArray.size = 0 ↔ _
 rw [List.size_toArray,List.length_eq_zero_iff]
theorem rparse_sl (g:Bool) (s D U:ByteArray) (SL:Nat) (w:World) (hs:s.size ≤ 65536) (hT:Tab64 w) (hTB:TabBh w) (h0:0 < SL)
  (hTk:∀ W,TabBh W → Calls Tryz.prog 36 #[.string s] W fun e w' => e = .returned (.tuple #[.agg #[.bool g,.string D,.int .i64 (SL:Nat),.string U,.string ⟨#[]⟩,.int .i64 ((0:Nat):Int),.string ⟨#[]⟩],.int .i64 0,.bool true]) ∧ Below W.heap.size W w')
  (d0:0 < D.size) (d1:D.size ≤ 65536) (dd:∀ q,q < D.size → 48 ≤ byA D q ∧ byA D q ≤ 57) (u0:0 < U.size) (u1:U.size ≤ 65536) (du:∀ q,q < U.size → 48 ≤ byA U q ∧ byA U q ≤ 57) (hU:0 < pwB U U.size) :
  Calls Tryz.prog 27 #[.string s] w fun e w' => PsPost w w' (WfF g (pwB D D.size) (pwB U U.size)).1.1 (WfF g (pwB D D.size) (pwB U U.size)).1.2.1 (WfF g (pwB D D.size) (pwB U U.size)).1.2.2 0 (WfF g (pwB D D.size) (pwB U U.size)).2 e:=by
 have hpa:=pa_of d0 d1 dd
 have hpu:=pa_of u0 u1 du
 have hcat:D ++ (⟨#[]⟩:ByteArray) = D:=cat_nil D
 have hTz:¬ (⟨(Lib.trimS U.data.toList [48]).toArray⟩:ByteArray).size = 0:=fun k => by have:=(trim_zero du).1 k; omega
 generalize pwB D D.size = V at *
 generalize pwB U U.size = E at *
 rw [← hcat] at hpa
 by_cases hN:2048 < (limbs V).length
 ·rw [fit_two hN] at hpa
  rw [wf_big (.inl hN)]
  exact parse_fE g s D U ⟨#[]⟩ ⟨#[]⟩ SL 0 w hs hT hTB hTk h0 _ u1 rfl hTz 0 readPower_nil [] [] 2 (by decide) fun W => written_bad g D U ⟨#[]⟩ ⟨#[]⟩ SL 0 0 _ W (by omega) 2 (by rw [hcat]; exact d1) hpa (by decide)
 ·rw [fitL_ok hN] at hpa
  have KW:=fun W => written_sl g D U ⟨#[]⟩ ⟨#[]⟩ SL 0 0 (limbs V) W (by omega) _ _ hpa h0 hpu
  by_cases hD:2048 < (limbs E).length
  ·rw [fit_two hD] at KW
   rw [wf_big (.inr hD)]
   exact parse_fE g s D U ⟨#[]⟩ ⟨#[]⟩ SL 0 w hs hT hTB hTk h0 _ u1 rfl hTz 0 readPower_nil (limbs V) [] 2 (by decide) KW
  ·rw [fitL_ok hD] at KW
   have K:=parse_fF g s D U ⟨#[]⟩ ⟨#[]⟩ SL 0 w hs hT hTB hTk h0 _ u1 rfl hTz 0 readPower_nil (limbs V) (limbs E) (limbs_ok _) (limbs_ok _) (mayL_fit hN) (mayL_fit hD) (limbs_nz (by omega)) KW
   rw [limbs_v,limbs_v] at K
   exact K.mono fun e w' h => ps_eq (wf_same hU hN hD) h
theorem rparse_sl0 (g:Bool) (s D U:ByteArray) (SL:Nat) (w:World) (hs:s.size ≤ 65536) (hT:Tab64 w) (hTB:TabBh w) (h0:0 < SL)
  (hTk:∀ W,TabBh W → Calls Tryz.prog 36 #[.string s] W fun e w' => e = .returned (.tuple #[.agg #[.bool g,.string D,.int .i64 (SL:Nat),.string U,.string ⟨#[]⟩,.int .i64 ((0:Nat):Int),.string ⟨#[]⟩],.int .i64 0,.bool true]) ∧ Below W.heap.size W w')
  (u1:U.size ≤ 65536) (du:∀ q,q < U.size → 48 ≤ byA U q ∧ byA U q ≤ 57) (hU:pwB U U.size = 0) :
  Calls Tryz.prog 27 #[.string s] w fun e w' => PsPost w w' false [] [] (SL:Nat) 3 e :=
 parse_fC g s D U ⟨#[]⟩ ⟨#[]⟩ SL 0 w hs hT hTB hTk h0 _ u1 rfl ((trim_zero du).2 hU)
theorem kd_is {s:ByteArray} {i:Nat} (h:i < s.size):kdA s i = kdN (byA s i):=by unfold kdA; rw [if_neg (by omega)]
theorem kd_four {s:ByteArray} {i:Nat} (h:i < s.size):kdA s i = 4 ↔ byA s i = 47:=by
 rw [kd_is h]; unfold kdN
 constructor
 ·intro k; revert k; repeat (first | split | (intro k; omega))
 ·intro k; rw [k]; rfl
theorem kd_five {s:ByteArray} {i:Nat} (h:i < s.size):kdA s i = 5 ↔ byA s i = 46:=by
 rw [kd_is h]; unfold kdN
 constructor
 ·intro k; revert k; repeat (first | split | (intro k; omega))
 ·intro k; rw [k]; rfl
theorem run_dig {s:ByteArray} {i j:Nat} (r:RunK s i j):∀ q,q < (s.extract i j).size → 48 ≤ byA (s.extract i j) q ∧ byA (s.extract i j) q ≤ 57:=fun q hq => by
 have ht:=r.top
 have hz:(s.extract i j).size = j - i:=by rw [ByteArray.size_extract]; omega
 rw [hz] at hq
 rw [byA_ext hq ht]
 exact (kd_one (by omega)).1 (r.all (i + q) (by omega) (by omega))
theorem byA_app {A B:ByteArray} {q:Nat}:byA (A ++ B) q = if q < A.size then byA A q else byA B (q - A.size):=by
 unfold byA
 have e1:∀ (x:ByteArray) (i:Nat),x.get! i = x.data[i]!:=fun _ _ => rfl
 rw [e1,e1,e1]
 have hd:(A ++ B).data = A.data ++ B.data:=by simp
 have hz:A.data.size = A.size:=rfl
 rw [hd]
 split
 ·rename_i h
  rw [Array.getElem!_eq_getD,Array.getElem!_eq_getD]
  simp [Array.getD_eq_getD_getElem?,Array.getElem?_append,hz,h]
 ·rename_i h
  rw [Array.getElem!_eq_getD,Array.getElem!_eq_getD]
  simp [Array.getD_eq_getD_getElem?,Array.getElem?_append,hz,h]
theorem dig_app {A B:ByteArray} (hA:∀ q,q < A.size → 48 ≤ byA A q ∧ byA A q ≤ 57) (hB:∀ q,q < B.size → 48 ≤ byA B q ∧ byA B q ≤ 57):∀ q,q < (A ++ B).size → 48 ≤ byA (A ++ B) q ∧ byA (A ++ B) q ≤ 57:=fun q hq => by
 rw [ByteArray.size_append] at hq
 rw [byA_app]
 split
 ·exact hA q (by assumption)
 ·exact hB _ (by omega)
theorem lastS_ge {s:ByteArray} {v q:Nat} (h:stS s (q + 1) = v):∀ n,q < n → q ≤ lastS s v n
 | 0,hq => by omega
 | n + 1,hq => by
  unfold lastS
  split
  ·omega
  ·rename_i k
   have:q ≠ n:=fun e => k (e ▸ h)
   exact lastS_ge h n (by omega)
theorem first_st (s:ByteArray):stS s 1 ≠ 6 ∧ stS s 1 ≠ 8:=by
 have h:=kdA_lt s 0
 have:∀ k:Fin 8,nxS 1 k.1 ≠ 6 ∧ nxS 1 k.1 ≠ 8:=by decide
 exact this ⟨kdA s 0,h⟩
theorem no_six {s:ByteArray} {g:Bool} {SL LT:Nat} (t:TkOk s g SL 0 LT):∀ q,q ≤ s.size → stS s (q + 1) ≠ 6:=fun q hq h => by
 have h1:=lastS_ge h (s.size + 1) (by omega)
 rw [t.point] at h1
 obtain rfl:q = 0:=by omega
 exact (first_st s).1 h
theorem no_eight {s:ByteArray} {g:Bool} {SL PT:Nat} (t:TkOk s g SL PT 0):∀ q,q ≤ s.size → stS s (q + 1) ≠ 8:=fun q hq h => by
 have h1:=lastS_ge h (s.size + 1) (by omega)
 rw [t.letter] at h1
 obtain rfl:q = 0:=by omega
 exact (first_st s).2 h
section
variable {s:ByteArray} {g:Bool} {i j k e b m PT:Nat}
def Tk (s:ByteArray) (g:Bool) (D:ByteArray) (SL:Nat) (U PL:ByteArray) (LT:Nat) (PW:ByteArray):Prop:=∀ W,TabBh W → Calls Tryz.prog 36 #[.string s] W fun e w' => e = .returned (.tuple #[.agg #[.bool g,.string D,.int .i64 (SL:Nat),.string U,.string PL,.int .i64 (LT:Nat),.string PW],.int .i64 0,.bool true]) ∧ Below W.heap.size W w'
theorem tk_z (h:Hd s g i) (hs:s.size ≤ 65536) (hi:i < s.size) (t:TkOk s g 0 0 0):Tk s g (s.extract i s.size) 0 ⟨#[]⟩ ⟨#[]⟩ 0 ⟨#[]⟩:=fun W hT => by
 have K:=takeApart_z s (s.extract i s.size) W hs hT (fun q hq => ⟨t.fine q hq,no_six t q hq,no_eight t q hq⟩) 0 t.slash rfl (fun V => by
  have:=trim_head h hs hi (Nat.le_refl _) V
  rwa [show s.extract 0 s.size = s from ByteArray.extract_zero_size] at this)
 rw [t.sign] at K
 exact K
theorem tk_n (h:Hd s g i) (hs:s.size ≤ 65536) (hi:i < j) (hj:j < s.size) (t:TkOk s g j 0 0):Tk s g (s.extract i j) j (s.extract (j + 1) s.size) ⟨#[]⟩ 0 ⟨#[]⟩:=fun W hT => by
 have K:=takeApart_n s (s.extract i j) W hs hT (fun q hq => ⟨t.fine q hq,no_six t q hq,no_eight t q hq⟩) j t.slash (by omega) hj (fun V => trim_head h hs hi (by omega) V)
 rw [t.sign] at K
 exact K
theorem tk_p (h:Hd s g i) (hs:s.size ≤ 65536) (hi:i < j) (hj:j < s.size) (t:TkOk s g 0 j 0):Tk s g (s.extract i j) 0 ⟨#[]⟩ (s.extract (j + 1) s.size) 0 ⟨#[]⟩:=fun W hT => by
 have K:=takeApart_p s (s.extract i j) W hs hT t.fine 0 j 0 t.slash t.point t.letter rfl (by omega) rfl hj (fun V => trim_head h hs hi (by omega) V)
 rw [t.sign] at K
 exact K
end
section
variable {s:ByteArray} {i a:Nat}
theorem ext_byte (h:i + a < s.size):byA (s.extract i s.size) a = byA s (i + a):=byA_ext (by omega) (Nat.le_refl _)
theorem enR_shift {p:Nat → Bool} (h:i + a ≤ s.size):enR p s (i + a) = i + enR p (s.extract i s.size) a:=by
 have hz:(s.extract i s.size).size = s.size - i:=by rw [ByteArray.size_extract]; omega
 have r:=enR_run p (s.extract i s.size) (i:=a) (by omega)
 have ht:=r.top
 have hl:=r.le
 refine RunP.is ⟨by omega,by omega,fun q h1 h2 => ?_,fun h2 => ?_⟩
 ·have:=r.all (q - i) (by omega) (by omega)
  rw [ext_byte (by omega),show i + (q - i) = q by omega] at this
  exact this
 ·have:=r.stop (by omega)
  rw [ext_byte (by omega)] at this
  exact this
theorem dig_run {n:Nat} (hi:i < s.size) (hd:dgtN (byA s i) = true) (hn:enR dgtN s i = n):i < n:=by
 have r:=enR_run dgtN s (i:=i) (by omega)
 rw [hn] at r
 rcases Nat.lt_or_eq_of_le r.le with e | e
 ·exact e
 ·have:=r.stop (by omega)
  rw [← e,hd] at this
  cases this
theorem plE_link (hi:i < s.size) (hd:dgtN (byA s i) = true):plE s i = if plE (s.extract i s.size) 0 = 0 then 0 else i + plE (s.extract i s.size) 0:=by
 have hz:(s.extract i s.size).size = s.size - i:=by rw [ByteArray.size_extract]; omega
 have h0:=enR_shift (p:=dgtN) (s:=s) (i:=i) (a:=0) (by omega)
 rw [Nat.add_zero] at h0
 have hgt:=dig_run hi hd rfl
 have ht:=(enR_run dgtN s (i:=i) (by omega)).top
 obtain ⟨n,hn⟩:∃ n,enR dgtN (s.extract i s.size) 0 = n:=⟨_,rfl⟩
 rw [hn] at h0
 rw [h0] at hgt ht
 unfold plE
 dsimp only
 simp only [h0,hn,Nat.sub_zero]
 by_cases c:i + n < s.size ∧ byA s (i + n) = 46
 ·have c':n < (s.extract i s.size).size ∧ byA (s.extract i s.size) n = 46:=⟨by omega,by rw [ext_byte (by omega)]; exact c.2⟩
  have h1:=enR_shift (p:=dgtN) (s:=s) (i:=i) (a:=n + 1) (by omega)
  rw [← Nat.add_assoc] at h1
  simp only [if_pos c,if_pos c',h1]
  obtain ⟨k,hk⟩:∃ k,enR dgtN (s.extract i s.size) (n + 1) = k:=⟨_,rfl⟩
  simp only [hk]
  have hkl:=(enR_run dgtN (s.extract i s.size) (i:=n + 1) (by omega)).le
  rw [hk] at hkl
  by_cases c2:k = n + 1
  ·simp only [if_pos (show i + k = i + n + 1 by omega),if_pos c2]
   simp
  ·simp only [if_neg (show ¬ i + k = i + n + 1 by omega),if_neg c2,show i + k - i = k by omega]
   split
   ·rfl
   ·rw [if_neg (by omega)]
 ·have c':¬ (n < (s.extract i s.size).size ∧ byA (s.extract i s.size) n = 46):=fun h => c ⟨by omega,by have:=h.2; rw [ext_byte (by omega)] at this; exact this⟩
  simp only [if_neg c,if_neg c',show i + n - i = n by omega]
  split
  ·rfl
  ·rw [if_neg (by omega)]
end
theorem br_in {c:UInt8}:([91,93]:List UInt8).contains c = true ↔ c.toNat = 91 ∨ c.toNat = 93:=by
 constructor
 ·intro h
  simp at h
  rcases h with h | h <;> (rw [h]; decide)
 ·intro h
  rcases h with h | h
  ·have:c = 91:=UInt8.toNat_inj.1 h
   rw [this]; rfl
  ·have:c = 93:=UInt8.toNat_inj.1 h
   rw [this]; rfl
theorem br_not {c:UInt8} (h:¬ (c.toNat = 91 ∨ c.toNat = 93)):([91,93]:List UInt8).contains c = false:=by
 cases e:([91,93]:List UInt8).contains c
 ·rfl
 ·exact absurd (br_in.1 e) h
theorem at_by {T:ByteArray} {q:Nat} {b:UInt8} (h:T.data.toList[q]? = some b):q < T.size ∧ b.toNat = byA T q:=by
 have hq:q < T.data.toList.length:=by
  rcases Nat.lt_or_ge q T.data.toList.length with c | c
  ·exact c
  ·rw [List.getElem?_eq_none c] at h; cases h
 have hs:q < T.size:=by simpa using hq
 refine ⟨hs,?_⟩
 unfold byA
 have e:T.get! q = T.data[q]!:=rfl
 rw [e,getElem!_pos T.data q hs]
 have h2:T.data.toList[q]? = some (T.data[q]'hs):=by simp [hs]
 rw [h2] at h
 rw [Option.some.inj h]
theorem trim_mid {T:ByteArray} {x y:Nat} (hxy:x < y) (hy:y ≤ T.size) (h1:∀ q,q < x → byA T q = 91 ∨ byA T q = 93) (h2:¬ (byA T x = 91 ∨ byA T x = 93)) (h3:∀ q,y ≤ q → q < T.size → byA T q = 91 ∨ byA T q = 93) (h4:¬ (byA T (y - 1) = 91 ∨ byA T (y - 1) = 93)):(⟨(Lib.trimS T.data.toList [91,93]).toArray⟩:ByteArray) = T.extract x y:=by
 have hl:T.data.toList.length = T.size:=by simp
 have e1:=Lib.trimRightS_take T.data.toList [91,93] y (by omega) (fun j b hj hb => by
  obtain ⟨a1,a2⟩:=at_by hb
  rw [br_in,a2]
  exact h3 j hj a1) (fun b h0 hb => by
  obtain ⟨a1,a2⟩:=at_by hb
  exact br_not (by rw [a2]; exact h4))
 have e2:=Lib.trimLeftS_drop (T.data.toList.take y) [91,93] x (by simp; omega) (fun j b hj hb => by
  rw [List.getElem?_take_of_lt (by omega)] at hb
  obtain ⟨a1,a2⟩:=at_by hb
  rw [br_in,a2]
  exact h1 j hj) (fun b hb => by
  rw [List.getElem?_take_of_lt (by omega)] at hb
  obtain ⟨a1,a2⟩:=at_by hb
  exact br_not (by rw [a2]; exact h2))
 unfold Lib.trimS
 rw [e1,e2]
 apply ByteArray.ext
 rw [ByteArray.data_extract]
 apply Array.ext'
 simp [List.drop_take]
end Go.Proofs.YtjoaijbhpgekoaaGreatDoor
