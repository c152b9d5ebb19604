/- Rpc -/
import Derived.Test.YtjoaijbhpgekoaaGreatDoorRp5
import Derived.Test.YtjoaijbhpgekoaaGreatDoorRp9
import Derived.Test.YtjoaijbhpgekoaaGreatDoorRq0
import Derived.Test.YtjoaijbhpgekoaaGreatDoorWrb
namespace Go.Proofs.YtjoaijbhpgekoaaGreatDoor
open Go.RowKit Go.Deep
set_option linter.unusedVariables false
def pwB (d:ByteArray):Nat → Nat
 | 0 => 0
 | i + 1 => 10 * pwB d i + (byA d i - 48)
theorem kd_one {s:ByteArray} {i:Nat} (h:i < s.size):kdA s i = 1 ↔ 48 ≤ byA s i ∧ byA s i ≤ 57:=by
 unfold kdA
 rw [if_neg (by omega)]
 unfold kdN
 constructor
 ·intro k
  by_cases c:48 ≤ byA s i ∧ byA s i ≤ 57
  ·exact c
  ·rw [if_neg c] at k
   revert k
   repeat (first | split | (intro k; omega))
 ·intro k
  rw [if_pos k]

theorem pwB_lt {s:ByteArray}:∀ {b:Nat},(∀ q,q < b → byA s q ≤ 57) → pwB s b < 10 ^ b
 | 0,_ => by simp [pwB]
 | b + 1,h => by
  have h1:=pwB_lt (s:=s) (b:=b) (fun q hq => h q (by omega))
  have h2:=h b (by omega)
  show 10 * pwB s b + (byA s b - 48) < 10 ^ (b + 1)
  rw [Nat.pow_succ]
  omega

theorem fit_more {a b:Nat} (h:a ≤ b) (k:2048 < (limbs a).length):fitL b = ([],2):=fitL_big (Nat.lt_of_lt_of_le k (limbs_len_le h))

set_option maxRecDepth 100000 in
set_option maxHeartbeats 8000000 in
theorem tenTo_ok (k q r:Nat) (hq:k / 1024 = q) (hr:k % 1024 = r) (hk:k ≤ 1048576) (hf:¬ 2048 < (limbs ((10 ^ 1024) ^ q)).length) (w:World) :
  Calls Tryz.prog 58 #[.int .i64 (k:Nat)] w fun e w' => Res2 w w' (fitL (10 ^ k)) e:=by
 obtain ⟨E,hE⟩:∃ E:Nat,E = 1024:=⟨_,rfl⟩
 have K0:=Hj (from_any 10 w (by decide))
 have e1:(k:Int).tdiv 1024 = (q:Int):=by rw [show (k:Int).tdiv 1024 = ((k / 1024:Nat):Int) from rfl]; omega
 have e2:(k:Int) / 1024 = (q:Int):=by omega
 have e3:(k:Int).tmod 1024 = (r:Int):=by rw [show (k:Int).tmod 1024 = ((k % 1024:Nat):Int) from rfl]; omega
 have e4:(k:Int) % 1024 = (r:Int):=by omega
 have hr2:r < 1024:=by omega
 have hq2:q ≤ 1024:=by omega
 rw [← hE] at hf
 have hP:powL (limbs (10 ^ E)) (q:Nat) = (limbs ((10 ^ E) ^ q),0):=by
  unfold powL
  rw [if_pos (ten_may (by omega)),if_neg (by omega),limbs_v,Int.toNat_natCast,fitL_ok hf]
 have hmul:mulL (limbs ((10 ^ E) ^ q)) (limbs (10 ^ r)) = fitL (10 ^ k):=by
  unfold mulL
  rw [show MayL (limbs ((10 ^ E) ^ q)) = true from MayL.mk (limbs_norm _) (by omega),ten_may (by omega),Bool.true_and,if_pos rfl,limbs_v,limbs_v,← Nat.pow_mul,← Nat.pow_add,show E * q + r = k by rw [hE]; omega]
 have HP:=Hj hP
 have HM:=Hj hmul
 generalize fitL (10 ^ k) = fk at *
 clear hP hmul hf hq hr
 go_enter Tryz.func58,Tryz.ntmps58
 go_wp2_with fail
 refine (Uh K0).mono ?_
 rintro _ w1 ⟨a1,m1,y1,rfl,s1,r1,n1,b1⟩
 rw [r1.eq] at s1
 have K1:=npow_any a1 m1 m1 (limbs 10) 1024 w1 s1 (limbs_ok 10)
 rw [pow_ten (n:=E) (by omega) (by omega)] at K1
 have K1':=Hj K1
 have H1:=Hj (And.intro s1 b1)
 clear s1 r1 n1 b1 K0 K1
 go_wp2_with fail
 refine (Uh K1').mono ?_
 rintro _ w2 ⟨a2,m2,c2,rfl,s2,n2,b2⟩
 have K2:=npow_any a2 m2 c2 (limbs (10 ^ E)) (q:Nat) w2 s2 (limbs_ok _)
 rw [Uh HP] at K2
 have K2':=Hj K2
 have H2:=Hj (And.intro ((Uh H1).1.below b2) ((Uh H1).2.trans (b2.mono (Uh H1).2.size)))
 clear s2 n2 b2 K1' K2 H1
 go_wp2_with fail
 refine (sure_any _ _ _).mono ?_
 rintro _ w3 ⟨rfl,hw⟩
 obtain rfl:=hw.symm
 clear hw
 go_wp2_with fail
 refine (Uh K2').mono ?_
 rintro _ w4 ⟨a4,m4,c4,rfl,s4,n4,b4⟩
 have K3:=npow_any a1 m1 m1 (limbs 10) (r:Nat) w4 ((Uh H2).1.below b4) (limbs_ok 10)
 rw [pow_ten (n:=r) rfl (by omega)] at K3
 have K3':=Hj K3
 have H4:=Hj (And.intro s4 ((Uh H2).2.trans (b4.mono (Uh H2).2.size)))
 clear s4 n4 b4 K2' K3 H2
 go_wp2_with fail
 refine (Uh K3').mono ?_
 rintro _ w5 ⟨a5,m5,c5,rfl,s5,n5,b5⟩
 have hB5:=(Uh H4).2.trans (b5.mono (Uh H4).2.size)
 have K5:=nmul_any a4 a5 m4 c4 m5 c5 (limbs ((10 ^ E) ^ q)) (limbs (10 ^ r)) w5 ((Uh H4).1.below b5) s5 (limbs_ok _) (limbs_ok _)
 rw [Uh HM] at K5
 have K5':=Hj K5
 have H5:=Hj hB5
 clear s5 n5 b5 hB5 K5 K3' H4
 go_wp2_with fail
 refine (sure_any _ _ _).mono ?_
 rintro _ w6 ⟨rfl,hw⟩
 obtain rfl:=hw.symm
 clear hw
 go_wp2_with fail
 refine (Uh K5').mono ?_
 rintro _ w7 ⟨a7,m7,c7,rfl,s7,n7,b7⟩
 have H7:=Hj (And.intro s7 (And.intro n7 b7))
 clear s7 n7 b7 K5'
 go_wp2_with fail
 go_ret2
 exact ⟨a7,m7,c7,rfl,(Uh H7).1,fun x hx => Nat.le_trans (Uh H5).size ((Uh H7).2.1 x hx),(Uh H5).trans ((Uh H7).2.2.mono (Uh H5).size)⟩
set_option maxRecDepth 100000 in
set_option maxHeartbeats 8000000 in
theorem tenTo_big (k q:Nat) (hq:k / 1024 = q) (hk:k ≤ 1048576) (hf:2048 < (limbs ((10 ^ 1024) ^ q)).length) (w:World) :
  Calls Tryz.prog 58 #[.int .i64 (k:Nat)] w fun e w' => Res2 w w' ([],2) e:=by
 obtain ⟨E,hE⟩:∃ E:Nat,E = 1024:=⟨_,rfl⟩
 have K0:=Hj (from_any 10 w (by decide))
 have e1:(k:Int).tdiv 1024 = (q:Int):=by rw [show (k:Int).tdiv 1024 = ((k / 1024:Nat):Int) from rfl]; omega
 have e2:(k:Int) / 1024 = (q:Int):=by omega
 have hq2:q ≤ 1024:=by omega
 rw [← hE] at hf
 have hP:powL (limbs (10 ^ E)) (q:Nat) = ([],2):=by
  unfold powL
  rw [if_pos (ten_may (by omega)),if_neg (by omega),limbs_v,Int.toNat_natCast,fitL_big hf]
 have HP:=Hj hP
 clear hP hf hq
 go_enter Tryz.func58,Tryz.ntmps58
 go_wp2_with fail
 refine (Uh K0).mono ?_
 rintro _ w1 ⟨a1,m1,y1,rfl,s1,r1,n1,b1⟩
 rw [r1.eq] at s1
 have K1:=npow_any a1 m1 m1 (limbs 10) 1024 w1 s1 (limbs_ok 10)
 rw [pow_ten (n:=E) (by omega) (by omega)] at K1
 have K1':=Hj K1
 have H1:=Hj (And.intro s1 b1)
 clear s1 r1 n1 b1 K0 K1
 go_wp2_with fail
 refine (Uh K1').mono ?_
 rintro _ w2 ⟨a2,m2,c2,rfl,s2,n2,b2⟩
 have K2:=npow_any a2 m2 c2 (limbs (10 ^ E)) (q:Nat) w2 s2 (limbs_ok _)
 rw [Uh HP] at K2
 have K2':=Hj K2
 have H2:=Hj ((Uh H1).2.trans (b2.mono (Uh H1).2.size))
 clear s2 n2 b2 K1' K2 H1
 go_wp2_with fail
 refine (sure_any _ _ _).mono ?_
 rintro _ w3 ⟨rfl,hw⟩
 obtain rfl:=hw.symm
 clear hw
 go_wp2_with fail
 refine (Uh K2').mono ?_
 rintro _ w4 ⟨a4,m4,c4,rfl,s4,n4,b4⟩
 have H4:=Hj ((Uh H2).trans (b4.mono (Uh H2).size))
 clear s4 n4 b4 K2' H2
 go_wp2_with fail
 go_ret2
 exact ⟨none,0,0,rfl,sl_nil _,newAt_nil _,Uh H4⟩
theorem tenTo_all (k:Nat) (hk:k ≤ 1048576) (w:World) :
  Calls Tryz.prog 58 #[.int .i64 (k:Nat)] w fun e w' => Res2 w w' (fitL (10 ^ k)) e:=by
 obtain ⟨E,hE⟩:∃ E:Nat,1024 = E:=⟨_,rfl⟩
 have K1:=fun q r hq hr hf => tenTo_ok k q r hq hr hk hf w
 have K2:=fun q hq hf => tenTo_big k q hq hk hf w
 rw [hE] at K1 K2
 by_cases hf:2048 < (limbs ((10 ^ E) ^ (k / E))).length
 ·have e:fitL (10 ^ k) = ([],2):=fit_more (a:=(10 ^ E) ^ (k / E)) (by rw [← Nat.pow_mul]; exact Nat.pow_le_pow_right (by decide) (Nat.mul_div_le k E)) hf
  rw [e]
  exact K2 _ rfl hf
 ·exact K1 _ _ rfl rfl hf
theorem ten_fit2 {n:Nat} (hn:n ≤ 4096):fitL (10 ^ n) = (limbs (10 ^ n),0):=by
 have h1:10 ^ n < 4294967296 ^ (n / 8 + 1):=by
  have h2:(10:Nat) ^ n ≤ 10 ^ (8 * (n / 8) + 7):=Nat.pow_le_pow_right (by decide) (by omega)
  rw [Nat.pow_add,Nat.pow_mul] at h2
  have h3:((10:Nat) ^ 8) ^ (n / 8) ≤ 4294967296 ^ (n / 8):=Nat.pow_le_pow_left (by decide) _
  have h4:((10:Nat) ^ 8) ^ (n / 8) * 10 ^ 7 < 4294967296 ^ (n / 8) * 4294967296:=Nat.lt_of_le_of_lt (Nat.mul_le_mul_right _ h3) (Nat.mul_lt_mul_of_pos_left (by decide) (Nat.pow_pos (by decide)))
  rw [Nat.pow_succ]
  exact Nat.lt_of_le_of_lt h2 h4
 exact fit_lt h1 (by omega)
def WuPost (w:World) (x y:List Nat) (er:Int) (e:Ending) (w':World):Prop:=∃ a1 n1 c1 a2 n2 c2,e = .returned (.tuple #[.slice a1 n1 c1,.slice a2 n2 c2,.int .i64 er]) ∧ Sl w' a1 n1 c1 x ∧ Sl w' a2 n2 c2 y ∧ Below w.heap.size w w'
set_option maxRecDepth 100000 in
set_option maxHeartbeats 16000000 in
theorem written_bad (NG:Bool) (D U PL PW:ByteArray) (SL LT:Nat) (P:Int) (x:List Nat) (w:World) (hP:-4096 ≤ P ∧ P ≤ 4096) (er:Int) (hsz:(D ++ PL).size ≤ 65536) (hD:PaIs (D ++ PL) 10 x 0 er) (he:er ≠ 0) :
  Calls Tryz.prog 38 #[.agg #[.bool NG,.string D,.int .i64 (SL:Nat),.string U,.string PL,.int .i64 (LT:Nat),.string PW],.int .i64 P] w fun e w' => WuPost w [] [] er e w':=by
 obtain ⟨wa,hwa⟩:∃ z,w.alloc (.cells #[.bool NG,.string D,.int .i64 (SL:Nat),.string U,.string PL,.int .i64 (LT:Nat),.string PW] 73) = z:=⟨_,rfl⟩
 have ba:Below w.heap.size w wa:=by rw [← hwa]; exact bAl
 have sp:=Sv.made w (.bool NG) (.string D) (.int .i64 (SL:Nat)) (.string U) (.string PL) (.int .i64 (LT:Nat)) (.string PW) 73
 rw [hwa] at sp
 have e1:=sp.c1
 have e2:=sp.c2
 have e3:=sp.c3
 have e4:=sp.c4
 have SP:=Hj sp
 have HB:=Hj ba
 have hsz2:D.size + PL.size ≤ 65536:=by rw [ByteArray.size_append] at hsz; exact hsz
 have hDs:(D.size:Int) + (PL.size:Int) ≤ 65536:=by omega
 have HK:=Hj (fun (W:World) => nparse_any (D ++ PL) 10 W)
 have HD:=Hj hD
 clear sp ba hD hsz
 generalize hT:D ++ PL = T at *
 go_enter Tryz.func38,Tryz.ntmps38
 go_wp2_with fail
 try rw [hT]
 clear hT
 refine (Uh HK _).mono ?_
 rintro _ w1 ⟨a1,n1,c1,zs,pp,er1,rfl,s1,b1,hp⟩
 obtain ⟨hx,rfl,he1⟩:=PaIs.uniq (Uh HD) hp
 subst hx
 have sp1:=(Uh SP).keep b1
 have f2:=sp1.c2
 have f3:=sp1.c3
 have f4:=sp1.c4
 have S1:=Hj (And.intro s1 (And.intro b1 sp1))
 clear s1 b1 hp sp1 e1 e2 e3 e4
 subst he1
 have te:(er != 0) = true:=by simpa using he
 clear he
 go_wp2_with fail
 go_ret3
 exact ⟨none,0,0,none,0,0,rfl,sl_nil _,sl_nil _,(Uh HB).trans ((Uh S1).2.1.mono (Uh HB).size)⟩
set_option maxRecDepth 100000 in
set_option maxHeartbeats 16000000 in
theorem written_sl (NG:Bool) (D U PL PW:ByteArray) (SL LT:Nat) (P:Int) (x:List Nat) (w:World) (hP:-4096 ≤ P ∧ P ≤ 4096) (y:List Nat) (er:Int) (hD:PaIs (D ++ PL) 10 x 0 0) (h0:0 < SL) (hU:PaIs U 10 y 0 er) :
  Calls Tryz.prog 38 #[.agg #[.bool NG,.string D,.int .i64 (SL:Nat),.string U,.string PL,.int .i64 (LT:Nat),.string PW],.int .i64 P] w fun e w' => WuPost w x y er e w':=by
 obtain ⟨wa,hwa⟩:∃ z,w.alloc (.cells #[.bool NG,.string D,.int .i64 (SL:Nat),.string U,.string PL,.int .i64 (LT:Nat),.string PW] 73) = z:=⟨_,rfl⟩
 have ba:Below w.heap.size w wa:=by rw [← hwa]; exact bAl
 have sp:=Sv.made w (.bool NG) (.string D) (.int .i64 (SL:Nat)) (.string U) (.string PL) (.int .i64 (LT:Nat)) (.string PW) 73
 rw [hwa] at sp
 have e1:=sp.c1
 have e2:=sp.c2
 have e3:=sp.c3
 have e4:=sp.c4
 have SP:=Hj sp
 have HB:=Hj ba
 have hsz:(D ++ PL).size ≤ 65536:=by
  generalize D ++ PL = T at hD
  cases hD with
  | read zs e h h0 hb hi hr => exact h
 have hsz2:D.size + PL.size ≤ 65536:=by rw [ByteArray.size_append] at hsz; exact hsz
 have hDs:(D.size:Int) + (PL.size:Int) ≤ 65536:=by omega
 have HK:=Hj (fun (W:World) => nparse_any (D ++ PL) 10 W)
 have HD:=Hj hD
 have tz:(0:Int) < (SL:Int):=by omega
 have HU:=Hj hU
 clear sp ba hD hsz h0 hU
 generalize hT:D ++ PL = T at *
 go_enter Tryz.func38,Tryz.ntmps38
 go_wp2_with fail
 try rw [hT]
 clear hT
 refine (Uh HK _).mono ?_
 rintro _ w1 ⟨a1,n1,c1,zs,pp,er1,rfl,s1,b1,hp⟩
 obtain ⟨hx,rfl,he1⟩:=PaIs.uniq (Uh HD) hp
 subst hx
 have sp1:=(Uh SP).keep b1
 have f2:=sp1.c2
 have f3:=sp1.c3
 have f4:=sp1.c4
 have S1:=Hj (And.intro s1 (And.intro b1 sp1))
 clear s1 b1 hp sp1 e1 e2 e3 e4
 subst he1
 have HK2:=Hj (fun (W:World) => nparse_any U 10 W)
 go_wp2_with fail
 refine (Uh HK2 _).mono ?_
 rintro _ w2 ⟨a2,n2,c2,zs2,pp2,er2,rfl,s2,b2,hp2⟩
 obtain ⟨hx2,rfl,rfl⟩:=PaIs.uniq (Uh HU) hp2
 subst hx2
 have S2:=Hj (And.intro s2 b2)
 clear s2 b2 hp2
 go_wp2_with fail
 go_ret3
 exact ⟨a1,n1,c1,a2,n2,c2,rfl,(Uh S1).1.below (Uh S2).2,(Uh S2).1,((Uh HB).trans ((Uh S1).2.1.mono (Uh HB).size)).trans ((Uh S2).2.mono (Nat.le_trans (Uh HB).size (Uh S1).2.1.size))⟩
set_option maxRecDepth 100000 in
set_option maxHeartbeats 16000000 in
theorem written_dn (NG:Bool) (D U PL PW:ByteArray) (SL LT:Nat) (P:Int) (x:List Nat) (w:World) (hP:-4096 ≤ P ∧ P ≤ 4096) (Q:Nat) (hD:PaIs (D ++ PL) 10 x 0 0) (h0:SL = 0) (hQ:P - (PL.size:Int) = -(Q:Int)) (hQ0:0 < Q) (hQ1:Q ≤ 1048576) :
  Calls Tryz.prog 38 #[.agg #[.bool NG,.string D,.int .i64 (SL:Nat),.string U,.string PL,.int .i64 (LT:Nat),.string PW],.int .i64 P] w fun e w' => WuPost w x (fitL (10 ^ Q)).1 (fitL (10 ^ Q)).2 e w':=by
 obtain ⟨wa,hwa⟩:∃ z,w.alloc (.cells #[.bool NG,.string D,.int .i64 (SL:Nat),.string U,.string PL,.int .i64 (LT:Nat),.string PW] 73) = z:=⟨_,rfl⟩
 have ba:Below w.heap.size w wa:=by rw [← hwa]; exact bAl
 have sp:=Sv.made w (.bool NG) (.string D) (.int .i64 (SL:Nat)) (.string U) (.string PL) (.int .i64 (LT:Nat)) (.string PW) 73
 rw [hwa] at sp
 have e1:=sp.c1
 have e2:=sp.c2
 have e3:=sp.c3
 have e4:=sp.c4
 have SP:=Hj sp
 have HB:=Hj ba
 have hsz:(D ++ PL).size ≤ 65536:=by
  generalize D ++ PL = T at hD
  cases hD with
  | read zs e h h0 hb hi hr => exact h
 have hsz2:D.size + PL.size ≤ 65536:=by rw [ByteArray.size_append] at hsz; exact hsz
 have hDs:(D.size:Int) + (PL.size:Int) ≤ 65536:=by omega
 have HK:=Hj (fun (W:World) => nparse_any (D ++ PL) 10 W)
 have HD:=Hj hD
 have tz:¬ (0:Int) < (SL:Int):=by omega
 clear sp ba hD hsz h0
 generalize hT:D ++ PL = T at *
 go_enter Tryz.func38,Tryz.ntmps38
 go_wp2_with fail
 try rw [hT]
 clear hT
 refine (Uh HK _).mono ?_
 rintro _ w1 ⟨a1,n1,c1,zs,pp,er1,rfl,s1,b1,hp⟩
 obtain ⟨hx,rfl,he1⟩:=PaIs.uniq (Uh HD) hp
 subst hx
 have sp1:=(Uh SP).keep b1
 have f2:=sp1.c2
 have f3:=sp1.c3
 have f4:=sp1.c4
 have S1:=Hj (And.intro s1 (And.intro b1 sp1))
 clear s1 b1 hp sp1 e1 e2 e3 e4
 subst he1
 have HKT:=Hj (tenTo_all Q hQ1 w1)
 have tq:P - (PL.size:Int) < 0:=by omega
 have tq2:(PL.size:Int) - P = (Q:Int):=by omega
 have tq3:-(P - (PL.size:Int)) = (Q:Int):=by omega
 have tq4:-(-(Q:Int)) = (Q:Int):=by omega
 have tq5:-(Q:Int) < 0:=by omega
 go_wp2_with fail
 refine (Uh HKT).mono ?_
 rintro _ w2 ⟨a2,n2,c2,rfl,s2,_,b2⟩
 have S2:=Hj (And.intro s2 b2)
 clear s2 b2
 go_wp2_with fail
 go_ret3
 exact ⟨a1,n1,c1,a2,n2,c2,rfl,(Uh S1).1.below (Uh S2).2,(Uh S2).1,((Uh HB).trans ((Uh S1).2.1.mono (Uh HB).size)).trans ((Uh S2).2.mono (Nat.le_trans (Uh HB).size (Uh S1).2.1.size))⟩
set_option maxRecDepth 100000 in
set_option maxHeartbeats 16000000 in
theorem written_up (NG:Bool) (D U PL PW:ByteArray) (SL LT:Nat) (P:Int) (x:List Nat) (w:World) (hP:-4096 ≤ P ∧ P ≤ 4096) (Q:Nat) (ox:Ok x) (kx:MayL x = true) (hD:PaIs (D ++ PL) 10 x 0 0) (h0:SL = 0) (hQ:P - (PL.size:Int) = (Q:Int)) (hQ1:Q ≤ 4096) :
  Calls Tryz.prog 38 #[.agg #[.bool NG,.string D,.int .i64 (SL:Nat),.string U,.string PL,.int .i64 (LT:Nat),.string PW],.int .i64 P] w fun e w' => WuPost w (fitL (val x * 10 ^ Q)).1 [1] (fitL (val x * 10 ^ Q)).2 e w':=by
 obtain ⟨wa,hwa⟩:∃ z,w.alloc (.cells #[.bool NG,.string D,.int .i64 (SL:Nat),.string U,.string PL,.int .i64 (LT:Nat),.string PW] 73) = z:=⟨_,rfl⟩
 have ba:Below w.heap.size w wa:=by rw [← hwa]; exact bAl
 have sp:=Sv.made w (.bool NG) (.string D) (.int .i64 (SL:Nat)) (.string U) (.string PL) (.int .i64 (LT:Nat)) (.string PW) 73
 rw [hwa] at sp
 have e1:=sp.c1
 have e2:=sp.c2
 have e3:=sp.c3
 have e4:=sp.c4
 have SP:=Hj sp
 have HB:=Hj ba
 have hsz:(D ++ PL).size ≤ 65536:=by
  generalize D ++ PL = T at hD
  cases hD with
  | read zs e h h0 hb hi hr => exact h
 obtain ⟨fk,hfk⟩:∃ z,fitL (val x * 10 ^ Q) = z:=⟨_,rfl⟩
 rw [hfk]
 have HFK:=Hj hfk
 clear hfk
 have hsz2:D.size + PL.size ≤ 65536:=by rw [ByteArray.size_append] at hsz; exact hsz
 have hDs:(D.size:Int) + (PL.size:Int) ≤ 65536:=by omega
 have HK:=Hj (fun (W:World) => nparse_any (D ++ PL) 10 W)
 have HD:=Hj hD
 have tz:¬ (0:Int) < (SL:Int):=by omega
 clear sp ba hD hsz h0
 generalize hT:D ++ PL = T at *
 go_enter Tryz.func38,Tryz.ntmps38
 go_wp2_with fail
 try rw [hT]
 clear hT
 refine (Uh HK _).mono ?_
 rintro _ w1 ⟨a1,n1,c1,zs,pp,er1,rfl,s1,b1,hp⟩
 obtain ⟨hx,rfl,he1⟩:=PaIs.uniq (Uh HD) hp
 subst hx
 have sp1:=(Uh SP).keep b1
 have f2:=sp1.c2
 have f3:=sp1.c3
 have f4:=sp1.c4
 have S1:=Hj (And.intro s1 (And.intro b1 sp1))
 clear s1 b1 hp sp1 e1 e2 e3 e4
 subst he1
 have KT:=tenTo_all Q (by omega) w1
 rw [ten_fit2 hQ1] at KT
 have HKT:=Hj KT
 have tq:¬ P - (PL.size:Int) < 0:=by omega
 have tq5:¬ (Q:Int) < 0:=by omega
 clear KT
 go_wp2_with fail
 refine (Uh HKT).mono ?_
 rintro _ w2 ⟨a2,n2,c2,rfl,s2,_,b2⟩
 dsimp only at s2
 have S2:=Hj (And.intro s2 b2)
 clear s2 b2
 go_wp2_with fail
 refine (sure_any _ _ _).mono ?_
 rintro _ _ ⟨rfl,hw⟩
 obtain rfl:=hw.symm
 clear hw
 have KM:=nmul_any a1 a2 n1 c1 n2 c2 x (limbs (10 ^ Q)) w2 ((Uh S1).1.below (Uh S2).2) (Uh S2).1 ox (limbs_rep _).ok
 have hM:mulL x (limbs (10 ^ Q)) = fitL (val x * 10 ^ Q):=by
  have hF:=ten_fit2 hQ1
  unfold mulL
  rw [kx,show MayL (limbs (10 ^ Q)) = true from MayL.mk (limbs_norm _) (by unfold fitL at hF; split at hF <;> simp_all),(limbs_rep (10 ^ Q)).val]
  simp only [Bool.and_self,if_true]
 rw [hM,Uh HFK] at KM
 have HKM:=Hj KM
 clear KM hM
 go_wp2_with fail
 refine (Uh HKM).mono ?_
 rintro _ w3 ⟨a3,n3,c3,rfl,s3,_,b3⟩
 have hb3:=(Uh S2).2.trans (b3.mono (Uh S2).2.size)
 have S3:=Hj (And.intro s3 hb3)
 clear s3 b3 hb3
 go_wp2_with fail
 refine (ratOne_any _).mono ?_
 rintro _ w4 ⟨a4,n4,rfl,s4,_,b4⟩
 have S4:=Hj (And.intro s4 b4)
 clear s4 b4
 go_wp2_with fail
 go_ret3
 have hz:=(Uh S1).2.1.trans ((Uh S3).2.mono (Uh S1).2.1.size)
 have hz2:=hz.trans ((Uh S4).2.mono hz.size)
 exact ⟨a3,n3,c3,a4,n4,n4,rfl,(Uh S3).1.below (Uh S4).2,(Uh S4).1,(Uh HB).trans (hz2.mono (Uh HB).size)⟩
end Go.Proofs.YtjoaijbhpgekoaaGreatDoor
