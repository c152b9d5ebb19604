/- Rpc -/
import Derived.Test.YtjoaijbhpgekoaaGreatDoorRp5
import Derived.Test.YtjoaijbhpgekoaaGreatDoorRp9
import Derived.Test.YtjoaijbhpgekoaaGreatDoorRq0
import Derived.Test.YtjoaijbhpgekoaaGreatDoorRa1
import Derived.Test.YtjoaijbhpgekoaaGreatDoorRp3
namespace Go.Proofs.YtjoaijbhpgekoaaGreatDoor
open Go.RowKit Go.Deep
set_option linter.unusedVariables false
def pwB (d:ByteArray):Nat → Nat
 | 0 => 0
 | i + 1 => 10 * pwB d i + (byA d i - 48)
theorem kd_one {s:ByteArray} {i:Nat} (h:i < s.size):kdA s i = 1 ↔ 48 ≤ byA s i ∧ byA s i ≤ 57:=by
 unfold kdA
 rw [if_neg (by omega)]
 unfold kdN
 constructor
 ·intro k
  by_cases c:48 ≤ byA s i ∧ byA s i ≤ 57
  ·exact c
  ·rw [if_neg c] at k
   revert k
   repeat (first | split | (intro k; omega))
 ·intro k
  rw [if_pos k]

def sgB (s:ByteArray) (b:Nat):Nat → Nat
 | 0 => 0
 | k + 1 => 10 * sgB s b k + (byA s (b + k) - 48)
theorem sgB_lt {s:ByteArray} {b:Nat}:∀ {k:Nat},(∀ q,q < k → byA s (b + q) ≤ 57) → sgB s b k < 10 ^ k
 | 0,_ => by simp [sgB]
 | k + 1,h => by
  have h1:=sgB_lt (s:=s) (b:=b) (k:=k) (fun q hq => h q (by omega))
  have h2:=h k (by omega)
  show 10 * sgB s b k + (byA s (b + k) - 48) < 10 ^ (k + 1)
  rw [Nat.pow_succ]
  omega
theorem pwB_lt {s:ByteArray}:∀ {b:Nat},(∀ q,q < b → byA s q ≤ 57) → pwB s b < 10 ^ b
 | 0,_ => by simp [pwB]
 | b + 1,h => by
  have h1:=pwB_lt (s:=s) (b:=b) (fun q hq => h q (by omega))
  have h2:=h b (by omega)
  show 10 * pwB s b + (byA s b - 48) < 10 ^ (b + 1)
  rw [Nat.pow_succ]
  omega

theorem fit_more {a b:Nat} (h:a ≤ b) (k:2048 < (limbs a).length):fitL b = ([],2):=fitL_big (Nat.lt_of_lt_of_le k (limbs_len_le h))

set_option maxRecDepth 100000 in
set_option maxHeartbeats 8000000 in
theorem tenTo_ok (k q r:Nat) (hq:k / 1024 = q) (hr:k % 1024 = r) (hk:k ≤ 1048576) (hf:¬ 2048 < (limbs ((10 ^ 1024) ^ q)).length) (w:World) :
  Calls Tryz.prog 58 #[.int .i64 (k:Nat)] w fun e w' => Res2 w w' (fitL (10 ^ k)) e:=by
 obtain ⟨E,hE⟩:∃ E:Nat,E = 1024:=⟨_,rfl⟩
 have K0:=Hj (from_any 10 w (by decide))
 have e1:(k:Int).tdiv 1024 = (q:Int):=by rw [show (k:Int).tdiv 1024 = ((k / 1024:Nat):Int) from rfl]; omega
 have e2:(k:Int) / 1024 = (q:Int):=by omega
 have e3:(k:Int).tmod 1024 = (r:Int):=by rw [show (k:Int).tmod 1024 = ((k % 1024:Nat):Int) from rfl]; omega
 have e4:(k:Int) % 1024 = (r:Int):=by omega
 have hr2:r < 1024:=by omega
 have hq2:q ≤ 1024:=by omega
 rw [← hE] at hf
 have hP:powL (limbs (10 ^ E)) (q:Nat) = (limbs ((10 ^ E) ^ q),0):=by
  unfold powL
  rw [if_pos (ten_may (by omega)),if_neg (by omega),limbs_v,Int.toNat_natCast,fitL_ok hf]
 have hmul:mulL (limbs ((10 ^ E) ^ q)) (limbs (10 ^ r)) = fitL (10 ^ k):=by
  unfold mulL
  rw [show MayL (limbs ((10 ^ E) ^ q)) = true from MayL.mk (limbs_norm _) (by omega),ten_may (by omega),Bool.true_and,if_pos rfl,limbs_v,limbs_v,← Nat.pow_mul,← Nat.pow_add,show E * q + r = k by rw [hE]; omega]
 have HP:=Hj hP
 have HM:=Hj hmul
 generalize fitL (10 ^ k) = fk at *
 clear hP hmul hf hq hr
 go_enter Tryz.func58,Tryz.ntmps58
 go_wp2_with fail
 refine (Uh K0).mono ?_
 rintro _ w1 ⟨a1,m1,y1,rfl,s1,r1,n1,b1⟩
 rw [r1.eq] at s1
 have K1:=npow_any a1 m1 m1 (limbs 10) 1024 w1 s1 (limbs_ok 10)
 rw [pow_ten (n:=E) (by omega) (by omega)] at K1
 have K1':=Hj K1
 have H1:=Hj (And.intro s1 b1)
 clear s1 r1 n1 b1 K0 K1
 go_wp2_with fail
 refine (Uh K1').mono ?_
 rintro _ w2 ⟨a2,m2,c2,rfl,s2,n2,b2⟩
 have K2:=npow_any a2 m2 c2 (limbs (10 ^ E)) (q:Nat) w2 s2 (limbs_ok _)
 rw [Uh HP] at K2
 have K2':=Hj K2
 have H2:=Hj (And.intro ((Uh H1).1.below b2) ((Uh H1).2.trans (b2.mono (Uh H1).2.size)))
 clear s2 n2 b2 K1' K2 H1
 go_wp2_with fail
 refine (sure_any _ _ _).mono ?_
 rintro _ w3 ⟨rfl,hw⟩
 obtain rfl:=hw.symm
 clear hw
 go_wp2_with fail
 refine (Uh K2').mono ?_
 rintro _ w4 ⟨a4,m4,c4,rfl,s4,n4,b4⟩
 have K3:=npow_any a1 m1 m1 (limbs 10) (r:Nat) w4 ((Uh H2).1.below b4) (limbs_ok 10)
 rw [pow_ten (n:=r) rfl (by omega)] at K3
 have K3':=Hj K3
 have H4:=Hj (And.intro s4 ((Uh H2).2.trans (b4.mono (Uh H2).2.size)))
 clear s4 n4 b4 K2' K3 H2
 go_wp2_with fail
 refine (Uh K3').mono ?_
 rintro _ w5 ⟨a5,m5,c5,rfl,s5,n5,b5⟩
 have hB5:=(Uh H4).2.trans (b5.mono (Uh H4).2.size)
 have K5:=nmul_any a4 a5 m4 c4 m5 c5 (limbs ((10 ^ E) ^ q)) (limbs (10 ^ r)) w5 ((Uh H4).1.below b5) s5 (limbs_ok _) (limbs_ok _)
 rw [Uh HM] at K5
 have K5':=Hj K5
 have H5:=Hj hB5
 clear s5 n5 b5 hB5 K5 K3' H4
 go_wp2_with fail
 refine (sure_any _ _ _).mono ?_
 rintro _ w6 ⟨rfl,hw⟩
 obtain rfl:=hw.symm
 clear hw
 go_wp2_with fail
 refine (Uh K5').mono ?_
 rintro _ w7 ⟨a7,m7,c7,rfl,s7,n7,b7⟩
 have H7:=Hj (And.intro s7 (And.intro n7 b7))
 clear s7 n7 b7 K5'
 go_wp2_with fail
 go_ret2
 exact ⟨a7,m7,c7,rfl,(Uh H7).1,fun x hx => Nat.le_trans (Uh H5).size ((Uh H7).2.1 x hx),(Uh H5).trans ((Uh H7).2.2.mono (Uh H5).size)⟩
set_option maxRecDepth 100000 in
set_option maxHeartbeats 8000000 in
theorem tenTo_big (k q:Nat) (hq:k / 1024 = q) (hk:k ≤ 1048576) (hf:2048 < (limbs ((10 ^ 1024) ^ q)).length) (w:World) :
  Calls Tryz.prog 58 #[.int .i64 (k:Nat)] w fun e w' => Res2 w w' ([],2) e:=by
 obtain ⟨E,hE⟩:∃ E:Nat,E = 1024:=⟨_,rfl⟩
 have K0:=Hj (from_any 10 w (by decide))
 have e1:(k:Int).tdiv 1024 = (q:Int):=by rw [show (k:Int).tdiv 1024 = ((k / 1024:Nat):Int) from rfl]; omega
 have e2:(k:Int) / 1024 = (q:Int):=by omega
 have hq2:q ≤ 1024:=by omega
 rw [← hE] at hf
 have hP:powL (limbs (10 ^ E)) (q:Nat) = ([],2):=by
  unfold powL
  rw [if_pos (ten_may (by omega)),if_neg (by omega),limbs_v,Int.toNat_natCast,fitL_big hf]
 have HP:=Hj hP
 clear hP hf hq
 go_enter Tryz.func58,Tryz.ntmps58
 go_wp2_with fail
 refine (Uh K0).mono ?_
 rintro _ w1 ⟨a1,m1,y1,rfl,s1,r1,n1,b1⟩
 rw [r1.eq] at s1
 have K1:=npow_any a1 m1 m1 (limbs 10) 1024 w1 s1 (limbs_ok 10)
 rw [pow_ten (n:=E) (by omega) (by omega)] at K1
 have K1':=Hj K1
 have H1:=Hj (And.intro s1 b1)
 clear s1 r1 n1 b1 K0 K1
 go_wp2_with fail
 refine (Uh K1').mono ?_
 rintro _ w2 ⟨a2,m2,c2,rfl,s2,n2,b2⟩
 have K2:=npow_any a2 m2 c2 (limbs (10 ^ E)) (q:Nat) w2 s2 (limbs_ok _)
 rw [Uh HP] at K2
 have K2':=Hj K2
 have H2:=Hj ((Uh H1).2.trans (b2.mono (Uh H1).2.size))
 clear s2 n2 b2 K1' K2 H1
 go_wp2_with fail
 refine (sure_any _ _ _).mono ?_
 rintro _ w3 ⟨rfl,hw⟩
 obtain rfl:=hw.symm
 clear hw
 go_wp2_with fail
 refine (Uh K2').mono ?_
 rintro _ w4 ⟨a4,m4,c4,rfl,s4,n4,b4⟩
 have H4:=Hj ((Uh H2).trans (b4.mono (Uh H2).size))
 clear s4 n4 b4 K2' H2
 go_wp2_with fail
 go_ret2
 exact ⟨none,0,0,rfl,sl_nil _,newAt_nil _,Uh H4⟩
theorem tenTo_all (k:Nat) (hk:k ≤ 1048576) (w:World) :
  Calls Tryz.prog 58 #[.int .i64 (k:Nat)] w fun e w' => Res2 w w' (fitL (10 ^ k)) e:=by
 obtain ⟨E,hE⟩:∃ E:Nat,1024 = E:=⟨_,rfl⟩
 have K1:=fun q r hq hr hf => tenTo_ok k q r hq hr hk hf w
 have K2:=fun q hq hf => tenTo_big k q hq hk hf w
 rw [hE] at K1 K2
 by_cases hf:2048 < (limbs ((10 ^ E) ^ (k / E))).length
 ·have e:fitL (10 ^ k) = ([],2):=fit_more (a:=(10 ^ E) ^ (k / E)) (by rw [← Nat.pow_mul]; exact Nat.pow_le_pow_right (by decide) (Nat.mul_div_le k E)) hf
  rw [e]
  exact K2 _ rfl hf
 ·exact K1 _ _ rfl rfl hf
theorem ten_fit2 {n:Nat} (hn:n ≤ 4096):fitL (10 ^ n) = (limbs (10 ^ n),0):=by
 have h1:10 ^ n < 4294967296 ^ (n / 8 + 1):=by
  have h2:(10:Nat) ^ n ≤ 10 ^ (8 * (n / 8) + 7):=Nat.pow_le_pow_right (by decide) (by omega)
  rw [Nat.pow_add,Nat.pow_mul] at h2
  have h3:((10:Nat) ^ 8) ^ (n / 8) ≤ 4294967296 ^ (n / 8):=Nat.pow_le_pow_left (by decide) _
  have h4:((10:Nat) ^ 8) ^ (n / 8) * 10 ^ 7 < 4294967296 ^ (n / 8) * 4294967296:=Nat.lt_of_le_of_lt (Nat.mul_le_mul_right _ h3) (Nat.mul_lt_mul_of_pos_left (by decide) (Nat.pow_pos (by decide)))
  rw [Nat.pow_succ]
  exact Nat.lt_of_le_of_lt h2 h4
 exact fit_lt h1 (by omega)
def WuPost (w:World) (x y:List Nat) (er:Int) (e:Ending) (w':World):Prop:=∃ a1 n1 c1 a2 n2 c2,e = .returned (.tuple #[.slice a1 n1 c1,.slice a2 n2 c2,.int .i64 er]) ∧ Sl w' a1 n1 c1 x ∧ Sl w' a2 n2 c2 y ∧ Below w.heap.size w w'
set_option maxRecDepth 100000 in
set_option maxHeartbeats 16000000 in
theorem written_bad (NG:Bool) (D U PL PW:ByteArray) (SL LT:Nat) (P:Int) (x:List Nat) (w:World) (hP:-4096 ≤ P ∧ P ≤ 4096) (er:Int) (hsz:(D ++ PL).size ≤ 65536) (hD:PaIs (D ++ PL) 10 x 0 er) (he:er ≠ 0) :
  Calls Tryz.prog 38 #[.agg #[.bool NG,.string D,.int .i64 (SL:Nat),.string U,.string PL,.int .i64 (LT:Nat),.string PW],.int .i64 P] w fun e w' => WuPost w [] [] er e w':=by
 obtain ⟨wa,hwa⟩:∃ z,w.alloc (.cells #[.bool NG,.string D,.int .i64 (SL:Nat),.string U,.string PL,.int .i64 (LT:Nat),.string PW] 73) = z:=⟨_,rfl⟩
 have ba:Below w.heap.size w wa:=by rw [← hwa]; exact bAl
 have sp:=Sv.made w (.bool NG) (.string D) (.int .i64 (SL:Nat)) (.string U) (.string PL) (.int .i64 (LT:Nat)) (.string PW) 73
 rw [hwa] at sp
 have e1:=sp.c1
 have e2:=sp.c2
 have e3:=sp.c3
 have e4:=sp.c4
 have SP:=Hj sp
 have HB:=Hj ba
 have hsz2:D.size + PL.size ≤ 65536:=by rw [ByteArray.size_append] at hsz; exact hsz
 have hDs:(D.size:Int) + (PL.size:Int) ≤ 65536:=by omega
 have HK:=Hj (fun (W:World) => nparse_any (D ++ PL) 10 W)
 have HD:=Hj hD
 clear sp ba hD hsz
 generalize hT:D ++ PL = T at *
 go_enter Tryz.func38,Tryz.ntmps38
 go_wp2_with fail
 try rw [hT]
 clear hT
 refine (Uh HK _).mono ?_
 rintro _ w1 ⟨a1,n1,c1,zs,pp,er1,rfl,s1,b1,hp⟩
 obtain ⟨hx,rfl,he1⟩:=PaIs.uniq (Uh HD) hp
 subst hx
 have sp1:=(Uh SP).keep b1
 have f2:=sp1.c2
 have f3:=sp1.c3
 have f4:=sp1.c4
 have S1:=Hj (And.intro s1 (And.intro b1 sp1))
 clear s1 b1 hp sp1 e1 e2 e3 e4
 subst he1
 have te:(er != 0) = true:=by simpa using he
 clear he
 go_wp2_with fail
 go_ret3
 exact ⟨none,0,0,none,0,0,rfl,sl_nil _,sl_nil _,(Uh HB).trans ((Uh S1).2.1.mono (Uh HB).size)⟩
set_option maxRecDepth 100000 in
set_option maxHeartbeats 16000000 in
theorem written_sl (NG:Bool) (D U PL PW:ByteArray) (SL LT:Nat) (P:Int) (x:List Nat) (w:World) (hP:-4096 ≤ P ∧ P ≤ 4096) (y:List Nat) (er:Int) (hD:PaIs (D ++ PL) 10 x 0 0) (h0:0 < SL) (hU:PaIs U 10 y 0 er) :
  Calls Tryz.prog 38 #[.agg #[.bool NG,.string D,.int .i64 (SL:Nat),.string U,.string PL,.int .i64 (LT:Nat),.string PW],.int .i64 P] w fun e w' => WuPost w x y er e w':=by
 obtain ⟨wa,hwa⟩:∃ z,w.alloc (.cells #[.bool NG,.string D,.int .i64 (SL:Nat),.string U,.string PL,.int .i64 (LT:Nat),.string PW] 73) = z:=⟨_,rfl⟩
 have ba:Below w.heap.size w wa:=by rw [← hwa]; exact bAl
 have sp:=Sv.made w (.bool NG) (.string D) (.int .i64 (SL:Nat)) (.string U) (.string PL) (.int .i64 (LT:Nat)) (.string PW) 73
 rw [hwa] at sp
 have e1:=sp.c1
 have e2:=sp.c2
 have e3:=sp.c3
 have e4:=sp.c4
 have SP:=Hj sp
 have HB:=Hj ba
 have hsz:(D ++ PL).size ≤ 65536:=by
  generalize D ++ PL = T at hD
  cases hD with
  | read zs e h h0 hb hi hr => exact h
 have hsz2:D.size + PL.size ≤ 65536:=by rw [ByteArray.size_append] at hsz; exact hsz
 have hDs:(D.size:Int) + (PL.size:Int) ≤ 65536:=by omega
 have HK:=Hj (fun (W:World) => nparse_any (D ++ PL) 10 W)
 have HD:=Hj hD
 have tz:(0:Int) < (SL:Int):=by omega
 have HU:=Hj hU
 clear sp ba hD hsz h0 hU
 generalize hT:D ++ PL = T at *
 go_enter Tryz.func38,Tryz.ntmps38
 go_wp2_with fail
 try rw [hT]
 clear hT
 refine (Uh HK _).mono ?_
 rintro _ w1 ⟨a1,n1,c1,zs,pp,er1,rfl,s1,b1,hp⟩
 obtain ⟨hx,rfl,he1⟩:=PaIs.uniq (Uh HD) hp
 subst hx
 have sp1:=(Uh SP).keep b1
 have f2:=sp1.c2
 have f3:=sp1.c3
 have f4:=sp1.c4
 have S1:=Hj (And.intro s1 (And.intro b1 sp1))
 clear s1 b1 hp sp1 e1 e2 e3 e4
 subst he1
 have HK2:=Hj (fun (W:World) => nparse_any U 10 W)
 go_wp2_with fail
 refine (Uh HK2 _).mono ?_
 rintro _ w2 ⟨a2,n2,c2,zs2,pp2,er2,rfl,s2,b2,hp2⟩
 obtain ⟨hx2,rfl,rfl⟩:=PaIs.uniq (Uh HU) hp2
 subst hx2
 have S2:=Hj (And.intro s2 b2)
 clear s2 b2 hp2
 go_wp2_with fail
 go_ret3
 exact ⟨a1,n1,c1,a2,n2,c2,rfl,(Uh S1).1.below (Uh S2).2,(Uh S2).1,((Uh HB).trans ((Uh S1).2.1.mono (Uh HB).size)).trans ((Uh S2).2.mono (Nat.le_trans (Uh HB).size (Uh S1).2.1.size))⟩
set_option maxRecDepth 100000 in
set_option maxHeartbeats 16000000 in
theorem written_dn (NG:Bool) (D U PL PW:ByteArray) (SL LT:Nat) (P:Int) (x:List Nat) (w:World) (hP:-4096 ≤ P ∧ P ≤ 4096) (Q:Nat) (hD:PaIs (D ++ PL) 10 x 0 0) (h0:SL = 0) (hQ:P - (PL.size:Int) = -(Q:Int)) (hQ0:0 < Q) (hQ1:Q ≤ 1048576) :
  Calls Tryz.prog 38 #[.agg #[.bool NG,.string D,.int .i64 (SL:Nat),.string U,.string PL,.int .i64 (LT:Nat),.string PW],.int .i64 P] w fun e w' => WuPost w x (fitL (10 ^ Q)).1 (fitL (10 ^ Q)).2 e w':=by
 obtain ⟨wa,hwa⟩:∃ z,w.alloc (.cells #[.bool NG,.string D,.int .i64 (SL:Nat),.string U,.string PL,.int .i64 (LT:Nat),.string PW] 73) = z:=⟨_,rfl⟩
 have ba:Below w.heap.size w wa:=by rw [← hwa]; exact bAl
 have sp:=Sv.made w (.bool NG) (.string D) (.int .i64 (SL:Nat)) (.string U) (.string PL) (.int .i64 (LT:Nat)) (.string PW) 73
 rw [hwa] at sp
 have e1:=sp.c1
 have e2:=sp.c2
 have e3:=sp.c3
 have e4:=sp.c4
 have SP:=Hj sp
 have HB:=Hj ba
 have hsz:(D ++ PL).size ≤ 65536:=by
  generalize D ++ PL = T at hD
  cases hD with
  | read zs e h h0 hb hi hr => exact h
 have hsz2:D.size + PL.size ≤ 65536:=by rw [ByteArray.size_append] at hsz; exact hsz
 have hDs:(D.size:Int) + (PL.size:Int) ≤ 65536:=by omega
 have HK:=Hj (fun (W:World) => nparse_any (D ++ PL) 10 W)
 have HD:=Hj hD
 have tz:¬ (0:Int) < (SL:Int):=by omega
 clear sp ba hD hsz h0
 generalize hT:D ++ PL = T at *
 go_enter Tryz.func38,Tryz.ntmps38
 go_wp2_with fail
 try rw [hT]
 clear hT
 refine (Uh HK _).mono ?_
 rintro _ w1 ⟨a1,n1,c1,zs,pp,er1,rfl,s1,b1,hp⟩
 obtain ⟨hx,rfl,he1⟩:=PaIs.uniq (Uh HD) hp
 subst hx
 have sp1:=(Uh SP).keep b1
 have f2:=sp1.c2
 have f3:=sp1.c3
 have f4:=sp1.c4
 have S1:=Hj (And.intro s1 (And.intro b1 sp1))
 clear s1 b1 hp sp1 e1 e2 e3 e4
 subst he1
 have HKT:=Hj (tenTo_all Q hQ1 w1)
 have tq:P - (PL.size:Int) < 0:=by omega
 have tq2:(PL.size:Int) - P = (Q:Int):=by omega
 have tq3:-(P - (PL.size:Int)) = (Q:Int):=by omega
 have tq4:-(-(Q:Int)) = (Q:Int):=by omega
 have tq5:-(Q:Int) < 0:=by omega
 go_wp2_with fail
 refine (Uh HKT).mono ?_
 rintro _ w2 ⟨a2,n2,c2,rfl,s2,_,b2⟩
 have S2:=Hj (And.intro s2 b2)
 clear s2 b2
 go_wp2_with fail
 go_ret3
 exact ⟨a1,n1,c1,a2,n2,c2,rfl,(Uh S1).1.below (Uh S2).2,(Uh S2).1,((Uh HB).trans ((Uh S1).2.1.mono (Uh HB).size)).trans ((Uh S2).2.mono (Nat.le_trans (Uh HB).size (Uh S1).2.1.size))⟩
set_option maxRecDepth 100000 in
set_option maxHeartbeats 16000000 in
theorem written_up (NG:Bool) (D U PL PW:ByteArray) (SL LT:Nat) (P:Int) (x:List Nat) (w:World) (hP:-4096 ≤ P ∧ P ≤ 4096) (Q:Nat) (ox:Ok x) (kx:MayL x = true) (hD:PaIs (D ++ PL) 10 x 0 0) (h0:SL = 0) (hQ:P - (PL.size:Int) = (Q:Int)) (hQ1:Q ≤ 4096) :
  Calls Tryz.prog 38 #[.agg #[.bool NG,.string D,.int .i64 (SL:Nat),.string U,.string PL,.int .i64 (LT:Nat),.string PW],.int .i64 P] w fun e w' => WuPost w (fitL (val x * 10 ^ Q)).1 [1] (fitL (val x * 10 ^ Q)).2 e w':=by
 obtain ⟨wa,hwa⟩:∃ z,w.alloc (.cells #[.bool NG,.string D,.int .i64 (SL:Nat),.string U,.string PL,.int .i64 (LT:Nat),.string PW] 73) = z:=⟨_,rfl⟩
 have ba:Below w.heap.size w wa:=by rw [← hwa]; exact bAl
 have sp:=Sv.made w (.bool NG) (.string D) (.int .i64 (SL:Nat)) (.string U) (.string PL) (.int .i64 (LT:Nat)) (.string PW) 73
 rw [hwa] at sp
 have e1:=sp.c1
 have e2:=sp.c2
 have e3:=sp.c3
 have e4:=sp.c4
 have SP:=Hj sp
 have HB:=Hj ba
 have hsz:(D ++ PL).size ≤ 65536:=by
  generalize D ++ PL = T at hD
  cases hD with
  | read zs e h h0 hb hi hr => exact h
 obtain ⟨fk,hfk⟩:∃ z,fitL (val x * 10 ^ Q) = z:=⟨_,rfl⟩
 rw [hfk]
 have HFK:=Hj hfk
 clear hfk
 have hsz2:D.size + PL.size ≤ 65536:=by rw [ByteArray.size_append] at hsz; exact hsz
 have hDs:(D.size:Int) + (PL.size:Int) ≤ 65536:=by omega
 have HK:=Hj (fun (W:World) => nparse_any (D ++ PL) 10 W)
 have HD:=Hj hD
 have tz:¬ (0:Int) < (SL:Int):=by omega
 clear sp ba hD hsz h0
 generalize hT:D ++ PL = T at *
 go_enter Tryz.func38,Tryz.ntmps38
 go_wp2_with fail
 try rw [hT]
 clear hT
 refine (Uh HK _).mono ?_
 rintro _ w1 ⟨a1,n1,c1,zs,pp,er1,rfl,s1,b1,hp⟩
 obtain ⟨hx,rfl,he1⟩:=PaIs.uniq (Uh HD) hp
 subst hx
 have sp1:=(Uh SP).keep b1
 have f2:=sp1.c2
 have f3:=sp1.c3
 have f4:=sp1.c4
 have S1:=Hj (And.intro s1 (And.intro b1 sp1))
 clear s1 b1 hp sp1 e1 e2 e3 e4
 subst he1
 have KT:=tenTo_all Q (by omega) w1
 rw [ten_fit2 hQ1] at KT
 have HKT:=Hj KT
 have tq:¬ P - (PL.size:Int) < 0:=by omega
 have tq5:¬ (Q:Int) < 0:=by omega
 clear KT
 go_wp2_with fail
 refine (Uh HKT).mono ?_
 rintro _ w2 ⟨a2,n2,c2,rfl,s2,_,b2⟩
 dsimp only at s2
 have S2:=Hj (And.intro s2 b2)
 clear s2 b2
 go_wp2_with fail
 refine (sure_any _ _ _).mono ?_
 rintro _ _ ⟨rfl,hw⟩
 obtain rfl:=hw.symm
 clear hw
 have KM:=nmul_any a1 a2 n1 c1 n2 c2 x (limbs (10 ^ Q)) w2 ((Uh S1).1.below (Uh S2).2) (Uh S2).1 ox (limbs_rep _).ok
 have hM:mulL x (limbs (10 ^ Q)) = fitL (val x * 10 ^ Q):=by
  have hF:=ten_fit2 hQ1
  unfold mulL
  rw [kx,show MayL (limbs (10 ^ Q)) = true from MayL.mk (limbs_norm _) (by unfold fitL at hF; split at hF <;> simp_all),(limbs_rep (10 ^ Q)).val]
  simp only [Bool.and_self,if_true]
 rw [hM,Uh HFK] at KM
 have HKM:=Hj KM
 clear KM hM
 go_wp2_with fail
 refine (Uh HKM).mono ?_
 rintro _ w3 ⟨a3,n3,c3,rfl,s3,_,b3⟩
 have hb3:=(Uh S2).2.trans (b3.mono (Uh S2).2.size)
 have S3:=Hj (And.intro s3 hb3)
 clear s3 b3 hb3
 go_wp2_with fail
 refine (ratOne_any _).mono ?_
 rintro _ w4 ⟨a4,n4,rfl,s4,_,b4⟩
 have S4:=Hj (And.intro s4 b4)
 clear s4 b4
 go_wp2_with fail
 go_ret3
 have hz:=(Uh S1).2.1.trans ((Uh S3).2.mono (Uh S1).2.1.size)
 have hz2:=hz.trans ((Uh S4).2.mono hz.size)
 exact ⟨a3,n3,c3,a4,n4,n4,rfl,(Uh S3).1.below (Uh S4).2,(Uh S4).1,(Uh HB).trans (hz2.mono (Uh HB).size)⟩
theorem TkI.letter {w wr:World} {s:ByteArray} {Ro Rp i:Nat} (h:TkI w wr s Ro Rp i) (h8:stS s (i + 1) = 8):TkI w (wr.setCell ⟨Rp,5,none⟩ (.int .i64 (i:Nat))) s Ro Rp (i + 1):=by
 have a:hasS s 2 (i + 1) = hasS s 2 i:=by conv => lhs; unfold hasS; rw [if_neg (by omega)]
 have b:lastS s 4 (i + 1) = lastS s 4 i:=by conv => lhs; unfold lastS; rw [if_neg (by omega)]
 have c:lastS s 8 (i + 1) = i:=by unfold lastS; rw [if_pos h8]
 exact ⟨by rw [a,b,c]; exact h.p.put5 _,h.o.far h.ne _,below_put h.bel h.hp,h.hp,h.ne⟩
theorem lastS_step {s:ByteArray} {v i:Nat} (h:stS s (i + 1) ≠ v):lastS s v (i + 1) = lastS s v i:=by conv => lhs; unfold lastS; rw [if_neg h]
theorem lastS_now {s:ByteArray} {v i:Nat} (h:stS s (i + 1) = v):lastS s v (i + 1) = i:=by unfold lastS; rw [if_pos h]

set_option maxRecDepth 100000 in
set_option maxHeartbeats 16000000 in
theorem takeApart_p (s D:ByteArray) (w:World) (hs:s.size ≤ 65536) (hT:TabBh w) (hf:∀ j,j ≤ s.size → stS s (j + 1) ≠ 0) (SL PT LT:Nat) (hSL:lastS s 4 (s.size + 1) = SL) (hPT:lastS s 6 (s.size + 1) = PT) (hLT:lastS s 8 (s.size + 1) = LT) (h0:SL = 0) (h1:0 < PT) (h2:LT = 0) (h3:PT < s.size)
  (hD:∀ W,Calls Tryz.prog 55 #[.string (s.extract 0 PT),.string ⟨#[45]⟩] W fun e w' => e = .returned (.string D) ∧ w' = W) :
  Calls Tryz.prog 36 #[.string s] w fun e w' => e = .returned (.tuple #[.agg #[.bool (hasS s 2 (s.size + 1)),.string D,.int .i64 (SL:Nat),.string ⟨#[]⟩,.string (s.extract (PT + 1) s.size),.int .i64 (LT:Nat),.string ⟨#[]⟩],.int .i64 0,.bool true]) ∧ Below w.heap.size w w':=by
 obtain ⟨wo,hwo⟩:∃ x,w.alloc (.cells #[.bool false,.string ⟨#[]⟩,.int .i64 0,.string ⟨#[]⟩,.string ⟨#[]⟩,.int .i64 0,.string ⟨#[]⟩] 73) = x:=⟨_,rfl⟩
 obtain ⟨wp,hwp⟩:∃ x,wo.alloc (.cells #[.bool false,.string ⟨#[]⟩,.int .i64 0,.string ⟨#[]⟩,.string ⟨#[]⟩,.int .i64 0,.string ⟨#[]⟩] 73) = x:=⟨_,rfl⟩
 have bo:Below w.heap.size w wo:=by rw [← hwo]; exact bAl
 have bp:Below wo.heap.size wo wp:=by rw [← hwp]; exact bAl
 have so:=Sv.made w (.bool false) (.string ⟨#[]⟩) (.int .i64 0) (.string ⟨#[]⟩) (.string ⟨#[]⟩) (.int .i64 0) (.string ⟨#[]⟩) 73
 rw [hwo] at so
 have sp:=Sv.made wo (.bool false) (.string ⟨#[]⟩) (.int .i64 0) (.string ⟨#[]⟩) (.string ⟨#[]⟩) (.int .i64 0) (.string ⟨#[]⟩) 73
 rw [hwp] at sp
 have hRo:=so.lt
 have HI0:=Hj (show TkI w wp s w.heap.size wo.heap.size 0 from ⟨sp,so.keep bp,bo.trans (bp.mono bo.size),bo.size,by omega⟩)
 have HT:=Hj hT
 have HF:=Hj hf
 have HSL:=Hj hSL
 have HPT:=Hj hPT
 have HLT:=Hj hLT
 have HD:=Hj hD
 obtain ⟨NG,hNG⟩:∃ b,hasS s 2 (s.size + 1) = b:=⟨_,rfl⟩
 rw [hNG]
 have HNG:=Hj hNG
 clear so sp bo bp hT hf hSL hPT hLT hD hNG
 go_enter Tryz.func36,Tryz.ntmps36
 go_wp2_with fail
 go_loopw [5,8,15] (fun pv sv cv wr => ∃ i:Nat,i ≤ s.size + 1 ∧ pv = .int .i64 (lastS s 6 i:Nat) ∧ sv = .int .u8 (stS s i:Nat) ∧ cv = .int .i64 (i:Nat) ∧ Hid (TkI w wr s w.heap.size wo.heap.size i)) (fun _ _ cv _ => (s.size + 1) - (intOf cv).toNat)
 case atStart => exact ⟨0,by omega,rfl,rfl,rfl,Uh HI0⟩
 case round =>
  clear HI0
  obtain ⟨i,hi,rfl,rfl,rfl,HI⟩:=hrel
  obtain ⟨pv,hpv⟩:∃ z,lastS s 6 i = z:=⟨_,rfl⟩
  rw [hpv]
  have HPV:=Hj hpv
  clear hpv
  by_cases hlt:i < s.size + 1
  ·have hlt':(i:Int) < (s.size:Int) + 1:=by omega
   have hst:=stS_lt s i
   have hkd:=kdA_lt s i
   have hnx:stS s (i + 1) = nxS (stS s i) (kdA s i):=rfl
   have hTb:=(Uh HT).below (Uh HI).bel (stS s i) (kdA s i) hst hkd
   have hslt:=stS_lt s (i + 1)
   have HK:=Hj (fun W => kindAt_any s i W hs (by omega))
   rw [← hnx] at hTb
   obtain ⟨st,hsv⟩:∃ z,stS s i = z:=⟨_,rfl⟩
   obtain ⟨kd,hkv⟩:∃ z,kdA s i = z:=⟨_,rfl⟩
   obtain ⟨nx,hnv⟩:∃ z,stS s (i + 1) = z:=⟨_,rfl⟩
   rw [hsv,hkv,hnv] at hTb
   rw [hkv] at HK
   rw [hsv] at hst ⊢
   rw [hkv] at hkd
   rw [hnv] at hslt
   have HNV:=Hj hnv
   clear hnx hsv hkv hnv
   go_wp2_with fail
   have FT:=fun z:Ext wr => z.cell hTb
   have hNE:=Ext.ne wr
   have hst':(st:Int) < 12:=by omega
   have hkd':(kd:Int) < 8:=by omega
   refine wp_region_ext (by kernel_rfl) (by kernel_rfl) ?_
   repeat (go_big_quiet_step (first
    | (go_at_call 54; rename_i z; exact Ext.call (Uh HK z.w) (fun e w' h => ⟨h.1,by rw [h.2]; exact Below.refl _ _⟩))))
   refine wpQuiet_nil ?_
   rintro _ ⟨xE,rfl⟩
   clear FT hNE hTb HK
   have HI2:=Hj ((Uh HI).keep xE.bel)
   have q0:=(Uh HI2).p.f0
   have q2:=(Uh HI2).p.f2
   have q5:=(Uh HI2).p.f5
   have e0:=(Uh HI2).p.c0
   have e2:=(Uh HI2).p.c2
   have e5:=(Uh HI2).p.c5
   have n0:nx ≠ 0:=by rw [← Uh HNV]; exact Uh HF i (by omega)
   have t0:((nx:Int) == 0) = false:=by simp; omega
   by_cases hc:nx = 2
   ·have t2:((nx:Int) == 2) = true:=by simp [hc]
    have HN:=Hj ((Uh HI2).neg ((Uh HNV).trans hc))
    clear HI
    go_wp2_with fail
    exact ⟨⟨i + 1,by omega,by rw [lastS_step (by rw [Uh HNV]; omega),Uh HPV],by rw [Uh HNV],by (first | rfl | go_num),Uh HN⟩,by simp [intOf]; omega⟩
   ·have t2:((nx:Int) == 2) = false:=by simp; omega
    have hn2:=hc
    clear hc
    by_cases hc:nx = 4
    ·have t4:((nx:Int) == 4) = true:=by simp [hc]
     have HN:=Hj ((Uh HI2).slash ((Uh HNV).trans hc))
     clear HI
     go_wp2_with fail
     exact ⟨⟨i + 1,by omega,by rw [lastS_step (by rw [Uh HNV]; omega),Uh HPV],by rw [Uh HNV],by (first | rfl | go_num),Uh HN⟩,by simp [intOf]; omega⟩
    ·have t4:((nx:Int) == 4) = false:=by simp; omega
     have hn4:=hc
     clear hc
     by_cases hc:nx = 6
     ·have t6:((nx:Int) == 6) = true:=by simp [hc]
      have HN:=Hj ((Uh HI2).same (by rw [Uh HNV]; omega) (by rw [Uh HNV]; omega) (by rw [Uh HNV]; omega))
      clear HI
      go_wp2_with fail
      exact ⟨⟨i + 1,by omega,by rw [lastS_now ((Uh HNV).trans hc)],by rw [Uh HNV],by (first | rfl | go_num),Uh HN⟩,by simp [intOf]; omega⟩
     ·have t6:((nx:Int) == 6) = false:=by simp; omega
      have hn6:=hc
      clear hc
      by_cases hc:nx = 8
      ·have t8:((nx:Int) == 8) = true:=by simp [hc]
       have HN:=Hj ((Uh HI2).letter ((Uh HNV).trans hc))
       clear HI
       go_wp2_with fail
       exact ⟨⟨i + 1,by omega,by rw [lastS_step (by rw [Uh HNV]; omega),Uh HPV],by rw [Uh HNV],by (first | rfl | go_num),Uh HN⟩,by simp [intOf]; omega⟩
      ·have t8:((nx:Int) == 8) = false:=by simp; omega
       have hn8:=hc
       clear hc
       have HN:=Hj ((Uh HI2).same (by rw [Uh HNV]; omega) (by rw [Uh HNV]; omega) (by rw [Uh HNV]; omega))
       clear HI
       go_wp2_with fail
       exact ⟨⟨i + 1,by omega,by rw [lastS_step (by rw [Uh HNV]; omega),Uh HPV],by rw [Uh HNV],by (first | rfl | go_num),Uh HN⟩,by simp [intOf]; omega⟩
  ·have hie:i = s.size + 1:=by omega
   have hlt':¬ (i:Int) < (s.size:Int) + 1:=by omega
   have hpv:=Uh HPV
   rw [hie,Uh HPT] at hpv
   subst hpv
   have hTk:=Uh HI
   rw [hie] at hTk
   have hp:=hTk.p
   rw [Uh HLT,Uh HSL,Uh HNG] at hp
   have u0:=hp.c0
   have u1:=hp.c1
   have u2:=hp.c2
   have u4:=hp.c4
   have u5:=hp.c5
   have u6:=hp.c6
   have x1:=hp.f1
   have x3:=hp.f3
   have x4:=hp.f4
   have x6:=hp.f6
   have HP:=Hj hp
   have HO:=Hj (And.intro hTk.o (And.intro hTk.bel (And.intro hTk.hp hTk.ne)))
   clear hTk hp hie
   have tz:¬ (0:Int) < (SL:Int):=by omega
   have HD2:=Hj (Uh HD)
   have HH:=Hj h0
   clear h0
   have tp:(0:Int) < (PT:Int):=by omega
   have tl:¬ (0:Int) < (LT:Int):=by omega
   clear h2
   have HPP:=Hj ((Uh HP).put4 (.string (s.extract (PT + 1) s.size)))
   have HOP:=Hj (And.intro ((Uh HO).1.far (j:=4) (Uh HO).2.2.2 (.string (s.extract (PT + 1) s.size))) (And.intro (below_put (i:=4) (v:=.string (s.extract (PT + 1) s.size)) (Uh HO).2.1 (Uh HO).2.2.1) (Uh HO).2.2))
   have a1P:=(Uh HPP).c1
   have a2P:=(Uh HPP).c2
   have a4P:=(Uh HPP).c4
   have a5P:=(Uh HPP).c5
   have b1P:=(Uh HPP).f1
   have b4P:=(Uh HPP).f4
   have hp1:(PT:Int) + 1 ≤ (s.size:Int):=by omega
   have hp2:(PT:Int) ≤ (s.size:Int):=by omega
   go_wp2_with fail
   refine (Uh HD2 _).mono ?_
   rintro _ _ ⟨rfl,hw⟩
   obtain rfl:=hw.symm
   clear hw
   have HP2:=Hj ((Uh HPP).put1 (.string D))
   have HO2:=Hj ((Uh HOP).1.far (j:=1) (Uh HOP).2.2.2 (.string D))
   have HB2:=Hj (below_put (i:=1) (v:=.string D) (Uh HOP).2.1 (Uh HOP).2.2.1)
   have HF2:=Hj (((((((Uh HO2).put0 (.bool NG)).put1 (.string D)).put2 (.int .i64 (SL:Nat))).put3 (.string ⟨#[]⟩)).put4 (.string (s.extract (PT + 1) s.size))).put5 (.int .i64 (LT:Nat))).put6 (.string ⟨#[]⟩)
   have HB3:=Hj (below_put (i:=6) (v:=.string ⟨#[]⟩) (below_put (i:=5) (v:=.int .i64 (LT:Nat)) (below_put (i:=4) (v:=.string (s.extract (PT + 1) s.size)) (below_put (i:=3) (v:=.string ⟨#[]⟩) (below_put (i:=2) (v:=.int .i64 (SL:Nat)) (below_put (i:=1) (v:=.string D) (below_put (i:=0) (v:=.bool NG) (Uh HB2) (Nat.le_refl _)) (Nat.le_refl _)) (Nat.le_refl _)) (Nat.le_refl _)) (Nat.le_refl _)) (Nat.le_refl _)) (Nat.le_refl _))
   have hne:=(Uh HOP).2.2.2
   have hne2:=hne.symm
   clear u0 u1 u2 u4 u5 u6 x1 x3 x4 x6
   clear a2P a4P a5P b4P
   have y0:=(Uh HP2).c0
   have y1:=(Uh HP2).c1
   have y2:=(Uh HP2).c2
   have y3:=(Uh HP2).c3
   have y4:=(Uh HP2).c4
   have y5:=(Uh HP2).c5
   have y6:=(Uh HP2).c6
   have z0:=(Uh HO2).c0
   have g0:=(Uh HO2).f0
   have z1:=(Uh HO2).c1
   have g1:=(Uh HO2).f1
   have z2:=(Uh HO2).c2
   have g2:=(Uh HO2).f2
   have z3:=(Uh HO2).c3
   have g3:=(Uh HO2).f3
   have z4:=(Uh HO2).c4
   have g4:=(Uh HO2).f4
   have z5:=(Uh HO2).c5
   have g5:=(Uh HO2).f5
   have z6:=(Uh HO2).c6
   have g6:=(Uh HO2).f6
   go_wp2_with fail
   have k0:=(Uh HF2).c0
   have k1:=(Uh HF2).c1
   have k2:=(Uh HF2).c2
   have k3:=(Uh HF2).c3
   have k4:=(Uh HF2).c4
   have k5:=(Uh HF2).c5
   have k6:=(Uh HF2).c6
   have hB:=Uh HB3
   generalize World.setCell _ ⟨w.heap.size,6,none⟩ (.string ⟨#[]⟩) = wf at k0 k1 k2 k3 k4 k5 k6 hB ⊢
   refine bodyPost_ret (by simp [results,Tryz.results36,go_sem,k0,k1,k2,k3,k4,k5,k6]; try rfl) rfl ?_
   exact ⟨rfl,hB⟩
end Go.Proofs.YtjoaijbhpgekoaaGreatDoor
