/- Ft3 -/
import Derived.Test.YtjoaijbhpgekoaaGreatDoorFt2
import Derived.Test.YtjoaijbhpgekoaaGreatDoorRp4
namespace Go.Proofs.YtjoaijbhpgekoaaGreatDoor
open Go.RowKit Go.Deep
set_option linter.unusedVariables false
theorem ext_run {p:Nat → Bool} {s:ByteArray} {a:Nat} (h:a ≤ s.size):enR p s a = a + enR p (s.extract a s.size) 0:=by
 have hz:(s.extract a s.size).size = s.size - a:=by rw [ByteArray.size_extract]; omega
 have r:=enR_run p (s.extract a s.size) (i:=0) (Nat.zero_le _)
 have hb:∀ q,q < s.size - a → byA (s.extract a s.size) q = byA s (a + q):=fun q hq => byA_ext hq (Nat.le_refl _)
 refine RunP.is ⟨by omega,by have:=r.top; omega,fun q h1 h2 => ?_,fun h2 => ?_⟩
 ·have h3:=r.top
  have:=r.all (q - a) (Nat.zero_le _) (by omega)
  rw [hb _ (by omega),show a + (q - a) = q by omega] at this
  exact this
 ·have:=r.stop (by omega)
  rw [hb _ (by omega)] at this
  exact this
theorem first_c {x:ByteArray} (c:UInt8) (h:0 < x.size):((x.extract 0 1).toList == [c]) = decide (byA x 0 = c.toNat):=by
 rw [Lib.extract_toList]
 cases x with
 | mk a =>
  cases a with
  | mk l =>
   cases l with
   | nil => simp [ByteArray.size] at h
   | cons d r =>
    have e:byA ⟨⟨d :: r⟩⟩ 0 = d.toNat:=rfl
    rw [e]
    simp
    by_cases h2:d = c
    ·subst h2; simp
    ·have h3:¬ d.toNat = c.toNat:=fun k => h2 (UInt8.toNat_inj.1 k)
     simp [h2,h3]
def pre1 (s:ByteArray) (c:UInt8):Bool:=decide (1 ≤ s.size) && ((s.extract 0 1).toList == [c])
theorem pre1_is {s:ByteArray} {c:UInt8} {a:Nat} (h:a ≤ s.size):pre1 (s.extract a s.size) c = decide (a < s.size ∧ byA s a = c.toNat):=by
 have hz:(s.extract a s.size).size = s.size - a:=by rw [ByteArray.size_extract]; omega
 unfold pre1
 by_cases ha:a < s.size
 ·rw [first_c c (by omega),byA_ext (by omega) (Nat.le_refl _),hz,decide_eq_true (by omega),Bool.true_and]
  simp [ha]
 ·rw [hz,decide_eq_false (by omega),Bool.false_and]
  simp [ha]
set_option maxHeartbeats 4000000 in
theorem slHas_dot (s:ByteArray) (b:Bool) (w:World) (hb:pre1 s 46 = b) :
  Calls Tryz.prog 47 #[.string s,.string ⟨#[46]⟩] w fun e w' => e = .returned (.bool b) ∧ w' = w:=by
 unfold pre1 at hb
 by_cases h:1 ≤ s.size
 ·have h':(1:Int) ≤ (s.size:Int):=by omega
  have hc:((s.extract 0 1).toList == [46]) = b:=by
   rw [← hb]
   simp [h]
  clear hb
  generalize hx:s.extract 0 1 = x at *
  go_enter Tryz.func47,Tryz.ntmps47
  go_wp2_with fail
  go_ret
  exact ⟨rfl,rfl⟩
 ·have h':¬ (1:Int) ≤ (s.size:Int):=by omega
  obtain rfl:b = false:=by rw [← hb]; simp [h]
  clear hb
  go_enter Tryz.func47,Tryz.ntmps47
  go_wp2_with fail
  go_ret
  exact ⟨rfl,rfl⟩
set_option maxHeartbeats 4000000 in
theorem has_dot (s:ByteArray) (b:Bool) (w:World) (hb:pre1 s 46 = b) :
  Calls Tryz.prog 29 #[.string s,.string ⟨#[46]⟩] w fun e w' => e = .returned (.bool b) ∧ w' = w:=by
 have HK:=Hj (slHas_dot s b w hb)
 clear hb
 go_enter Tryz.func29,Tryz.ntmps29
 go_wp2_with fail
 refine (Uh HK).mono ?_
 rintro _ _ ⟨rfl,hw⟩
 obtain rfl:=hw.symm
 clear hw
 go_wp2_with fail
 go_ret
 exact ⟨rfl,rfl⟩
set_option maxHeartbeats 4000000 in
theorem slHas_min (s:ByteArray) (b:Bool) (w:World) (hb:pre1 s 45 = b) :
  Calls Tryz.prog 47 #[.string s,.string ⟨#[45]⟩] w fun e w' => e = .returned (.bool b) ∧ w' = w:=by
 unfold pre1 at hb
 by_cases h:1 ≤ s.size
 ·have h':(1:Int) ≤ (s.size:Int):=by omega
  have hc:((s.extract 0 1).toList == [45]) = b:=by
   rw [← hb]
   simp [h]
  clear hb
  generalize hx:s.extract 0 1 = x at *
  go_enter Tryz.func47,Tryz.ntmps47
  go_wp2_with fail
  go_ret
  exact ⟨rfl,rfl⟩
 ·have h':¬ (1:Int) ≤ (s.size:Int):=by omega
  obtain rfl:b = false:=by rw [← hb]; simp [h]
  clear hb
  go_enter Tryz.func47,Tryz.ntmps47
  go_wp2_with fail
  go_ret
  exact ⟨rfl,rfl⟩
set_option maxHeartbeats 4000000 in
theorem has_min (s:ByteArray) (b:Bool) (w:World) (hb:pre1 s 45 = b) :
  Calls Tryz.prog 29 #[.string s,.string ⟨#[45]⟩] w fun e w' => e = .returned (.bool b) ∧ w' = w:=by
 have HK:=Hj (slHas_min s b w hb)
 clear hb
 go_enter Tryz.func29,Tryz.ntmps29
 go_wp2_with fail
 refine (Uh HK).mono ?_
 rintro _ _ ⟨rfl,hw⟩
 obtain rfl:=hw.symm
 clear hw
 go_wp2_with fail
 go_ret
 exact ⟨rfl,rfl⟩
set_option maxHeartbeats 4000000 in
theorem slHas_sla (s:ByteArray) (b:Bool) (w:World) (hb:pre1 s 47 = b) :
  Calls Tryz.prog 47 #[.string s,.string ⟨#[47]⟩] w fun e w' => e = .returned (.bool b) ∧ w' = w:=by
 unfold pre1 at hb
 by_cases h:1 ≤ s.size
 ·have h':(1:Int) ≤ (s.size:Int):=by omega
  have hc:((s.extract 0 1).toList == [47]) = b:=by
   rw [← hb]
   simp [h]
  clear hb
  generalize hx:s.extract 0 1 = x at *
  go_enter Tryz.func47,Tryz.ntmps47
  go_wp2_with fail
  go_ret
  exact ⟨rfl,rfl⟩
 ·have h':¬ (1:Int) ≤ (s.size:Int):=by omega
  obtain rfl:b = false:=by rw [← hb]; simp [h]
  clear hb
  go_enter Tryz.func47,Tryz.ntmps47
  go_wp2_with fail
  go_ret
  exact ⟨rfl,rfl⟩
set_option maxHeartbeats 4000000 in
theorem has_sla (s:ByteArray) (b:Bool) (w:World) (hb:pre1 s 47 = b) :
  Calls Tryz.prog 29 #[.string s,.string ⟨#[47]⟩] w fun e w' => e = .returned (.bool b) ∧ w' = w:=by
 have HK:=Hj (slHas_sla s b w hb)
 clear hb
 go_enter Tryz.func29,Tryz.ntmps29
 go_wp2_with fail
 refine (Uh HK).mono ?_
 rintro _ _ ⟨rfl,hw⟩
 obtain rfl:=hw.symm
 clear hw
 go_wp2_with fail
 go_ret
 exact ⟨rfl,rfl⟩
set_option maxHeartbeats 4000000 in
theorem slHas_bra (s:ByteArray) (b:Bool) (w:World) (hb:pre1 s 93 = b) :
  Calls Tryz.prog 47 #[.string s,.string ⟨#[93]⟩] w fun e w' => e = .returned (.bool b) ∧ w' = w:=by
 unfold pre1 at hb
 by_cases h:1 ≤ s.size
 ·have h':(1:Int) ≤ (s.size:Int):=by omega
  have hc:((s.extract 0 1).toList == [93]) = b:=by
   rw [← hb]
   simp [h]
  clear hb
  generalize hx:s.extract 0 1 = x at *
  go_enter Tryz.func47,Tryz.ntmps47
  go_wp2_with fail
  go_ret
  exact ⟨rfl,rfl⟩
 ·have h':¬ (1:Int) ≤ (s.size:Int):=by omega
  obtain rfl:b = false:=by rw [← hb]; simp [h]
  clear hb
  go_enter Tryz.func47,Tryz.ntmps47
  go_wp2_with fail
  go_ret
  exact ⟨rfl,rfl⟩
set_option maxHeartbeats 4000000 in
theorem has_bra (s:ByteArray) (b:Bool) (w:World) (hb:pre1 s 93 = b) :
  Calls Tryz.prog 29 #[.string s,.string ⟨#[93]⟩] w fun e w' => e = .returned (.bool b) ∧ w' = w:=by
 have HK:=Hj (slHas_bra s b w hb)
 clear hb
 go_enter Tryz.func29,Tryz.ntmps29
 go_wp2_with fail
 refine (Uh HK).mono ?_
 rintro _ _ ⟨rfl,hw⟩
 obtain rfl:=hw.symm
 clear hw
 go_wp2_with fail
 go_ret
 exact ⟨rfl,rfl⟩
set_option maxRecDepth 20000 in
set_option maxHeartbeats 4000000 in
theorem fpl_Nl (s:ByteArray) (w:World) (hs:s.size ≤ 65536) (n:Nat) (hn:enR dgtN s 0 = n) (hp:¬ (n < s.size ∧ byA s n = 46)) (hl:n ≤ 1000):Calls Tryz.prog 19 #[.string s] w fun e w' => e = .returned (.int .i64 (n:Nat)) ∧ w' = w:=by
 have hnt:=(enR_run dgtN s (i:=0) (Nat.zero_le _)).top
 rw [hn] at hnt
 have K1:=fdsize_any s w hs
 rw [hn] at K1
 have H1:=Hj K1
 have tn:(n:Int) ≤ (s.size:Int):=by omega
 have K2:=has_dot (s.extract n s.size) false w (by rw [pre1_is hnt]; exact decide_eq_false hp)
 have H2:=Hj K2
 clear K1 K2 hn hp 
 have tl:¬ (1000:Int) < (n:Int):=by omega
 go_enter Tryz.func19,Tryz.ntmps19
 go_wp2_with fail
 refine (Uh H1).mono ?_
 rintro _ _ ⟨rfl,hw⟩
 obtain rfl:=hw.symm
 clear hw H1
 go_wp2_with fail
 refine (Uh H2).mono ?_
 rintro _ _ ⟨rfl,hw⟩
 obtain rfl:=hw.symm
 clear hw H2
 go_wp2_with fail
 go_ret
 exact ⟨by (first | rfl | go_num),rfl⟩
set_option maxRecDepth 20000 in
set_option maxHeartbeats 4000000 in
theorem fpl_Ng (s:ByteArray) (w:World) (hs:s.size ≤ 65536) (n:Nat) (hn:enR dgtN s 0 = n) (hp:¬ (n < s.size ∧ byA s n = 46)) (hl:1000 < n):Calls Tryz.prog 19 #[.string s] w fun e w' => e = .returned (.int .i64 (0:Nat)) ∧ w' = w:=by
 have hnt:=(enR_run dgtN s (i:=0) (Nat.zero_le _)).top
 rw [hn] at hnt
 have K1:=fdsize_any s w hs
 rw [hn] at K1
 have H1:=Hj K1
 have tn:(n:Int) ≤ (s.size:Int):=by omega
 have K2:=has_dot (s.extract n s.size) false w (by rw [pre1_is hnt]; exact decide_eq_false hp)
 have H2:=Hj K2
 clear K1 K2 hn hp 
 have tl:(1000:Int) < (n:Int):=by omega
 go_enter Tryz.func19,Tryz.ntmps19
 go_wp2_with fail
 refine (Uh H1).mono ?_
 rintro _ _ ⟨rfl,hw⟩
 obtain rfl:=hw.symm
 clear hw H1
 go_wp2_with fail
 refine (Uh H2).mono ?_
 rintro _ _ ⟨rfl,hw⟩
 obtain rfl:=hw.symm
 clear hw H2
 go_wp2_with fail
 go_ret
 exact ⟨by (first | rfl | go_num),rfl⟩
set_option maxRecDepth 20000 in
set_option maxHeartbeats 4000000 in
theorem fpl_B (s:ByteArray) (w:World) (hs:s.size ≤ 65536) (n:Nat) (hn:enR dgtN s 0 = n) (hp:n < s.size ∧ byA s n = 46) (k:Nat) (hk:enR dgtN (s.extract (n + 1) s.size) 0 = k) (hz:k = 0):Calls Tryz.prog 19 #[.string s] w fun e w' => e = .returned (.int .i64 (0:Nat)) ∧ w' = w:=by
 have hnt:=(enR_run dgtN s (i:=0) (Nat.zero_le _)).top
 rw [hn] at hnt
 have K1:=fdsize_any s w hs
 rw [hn] at K1
 have H1:=Hj K1
 have tn:(n:Int) ≤ (s.size:Int):=by omega
 have K2:=has_dot (s.extract n s.size) true w (by rw [pre1_is hnt]; exact decide_eq_true hp)
 have H2:=Hj K2
 have tn1:(n:Int) + 1 ≤ (s.size:Int):=by omega
 have hsz:(s.extract (n + 1) s.size).size ≤ 65536:=by rw [ByteArray.size_extract]; omega
 have hkt:=(enR_run dgtN (s.extract (n + 1) s.size) (i:=0) (Nat.zero_le _)).top
 rw [hk,ByteArray.size_extract] at hkt
 have K3:=fdsize_any (s.extract (n + 1) s.size) w hsz
 rw [hk] at K3
 have H3:=Hj K3
 clear K1 K2 hn hp K3 hk 
 subst hz
 go_enter Tryz.func19,Tryz.ntmps19
 go_wp2_with fail
 refine (Uh H1).mono ?_
 rintro _ _ ⟨rfl,hw⟩
 obtain rfl:=hw.symm
 clear hw H1
 go_wp2_with fail
 refine (Uh H2).mono ?_
 rintro _ _ ⟨rfl,hw⟩
 obtain rfl:=hw.symm
 clear hw H2
 go_wp2_with fail
 refine (Uh H3).mono ?_
 rintro _ _ ⟨rfl,hw⟩
 obtain rfl:=hw.symm
 clear hw H3
 go_wp2_with fail
 go_ret
 exact ⟨by (first | rfl | go_num),rfl⟩
set_option maxRecDepth 20000 in
set_option maxHeartbeats 4000000 in
theorem fpl_Yl (s:ByteArray) (w:World) (hs:s.size ≤ 65536) (n:Nat) (hn:enR dgtN s 0 = n) (hp:n < s.size ∧ byA s n = 46) (k:Nat) (hk:enR dgtN (s.extract (n + 1) s.size) 0 = k) (hz:0 < k) (hl:(n + (1 + k)) ≤ 1000):Calls Tryz.prog 19 #[.string s] w fun e w' => e = .returned (.int .i64 ((n + (1 + k)):Nat)) ∧ w' = w:=by
 have hnt:=(enR_run dgtN s (i:=0) (Nat.zero_le _)).top
 rw [hn] at hnt
 have K1:=fdsize_any s w hs
 rw [hn] at K1
 have H1:=Hj K1
 have tn:(n:Int) ≤ (s.size:Int):=by omega
 have K2:=has_dot (s.extract n s.size) true w (by rw [pre1_is hnt]; exact decide_eq_true hp)
 have H2:=Hj K2
 have tn1:(n:Int) + 1 ≤ (s.size:Int):=by omega
 have hsz:(s.extract (n + 1) s.size).size ≤ 65536:=by rw [ByteArray.size_extract]; omega
 have hkt:=(enR_run dgtN (s.extract (n + 1) s.size) (i:=0) (Nat.zero_le _)).top
 rw [hk,ByteArray.size_extract] at hkt
 have K3:=fdsize_any (s.extract (n + 1) s.size) w hsz
 rw [hk] at K3
 have H3:=Hj K3
 clear K1 K2 hn hp K3 hk 
 have tk:((k:Int) == 0) = false:=by simp; omega
 have tl:¬ (1000:Int) < (n:Int) + (1 + (k:Int)):=by omega
 go_enter Tryz.func19,Tryz.ntmps19
 go_wp2_with fail
 refine (Uh H1).mono ?_
 rintro _ _ ⟨rfl,hw⟩
 obtain rfl:=hw.symm
 clear hw H1
 go_wp2_with fail
 refine (Uh H2).mono ?_
 rintro _ _ ⟨rfl,hw⟩
 obtain rfl:=hw.symm
 clear hw H2
 go_wp2_with fail
 refine (Uh H3).mono ?_
 rintro _ _ ⟨rfl,hw⟩
 obtain rfl:=hw.symm
 clear hw H3
 go_wp2_with fail
 go_ret
 exact ⟨by (first | rfl | go_num),rfl⟩
set_option maxRecDepth 20000 in
set_option maxHeartbeats 4000000 in
theorem fpl_Yg (s:ByteArray) (w:World) (hs:s.size ≤ 65536) (n:Nat) (hn:enR dgtN s 0 = n) (hp:n < s.size ∧ byA s n = 46) (k:Nat) (hk:enR dgtN (s.extract (n + 1) s.size) 0 = k) (hz:0 < k) (hl:1000 < (n + (1 + k))):Calls Tryz.prog 19 #[.string s] w fun e w' => e = .returned (.int .i64 (0:Nat)) ∧ w' = w:=by
 have hnt:=(enR_run dgtN s (i:=0) (Nat.zero_le _)).top
 rw [hn] at hnt
 have K1:=fdsize_any s w hs
 rw [hn] at K1
 have H1:=Hj K1
 have tn:(n:Int) ≤ (s.size:Int):=by omega
 have K2:=has_dot (s.extract n s.size) true w (by rw [pre1_is hnt]; exact decide_eq_true hp)
 have H2:=Hj K2
 have tn1:(n:Int) + 1 ≤ (s.size:Int):=by omega
 have hsz:(s.extract (n + 1) s.size).size ≤ 65536:=by rw [ByteArray.size_extract]; omega
 have hkt:=(enR_run dgtN (s.extract (n + 1) s.size) (i:=0) (Nat.zero_le _)).top
 rw [hk,ByteArray.size_extract] at hkt
 have K3:=fdsize_any (s.extract (n + 1) s.size) w hsz
 rw [hk] at K3
 have H3:=Hj K3
 clear K1 K2 hn hp K3 hk 
 have tk:((k:Int) == 0) = false:=by simp; omega
 have tl:(1000:Int) < (n:Int) + (1 + (k:Int)):=by omega
 go_enter Tryz.func19,Tryz.ntmps19
 go_wp2_with fail
 refine (Uh H1).mono ?_
 rintro _ _ ⟨rfl,hw⟩
 obtain rfl:=hw.symm
 clear hw H1
 go_wp2_with fail
 refine (Uh H2).mono ?_
 rintro _ _ ⟨rfl,hw⟩
 obtain rfl:=hw.symm
 clear hw H2
 go_wp2_with fail
 refine (Uh H3).mono ?_
 rintro _ _ ⟨rfl,hw⟩
 obtain rfl:=hw.symm
 clear hw H3
 go_wp2_with fail
 go_ret
 exact ⟨by (first | rfl | go_num),rfl⟩
theorem fplain_any (s:ByteArray) (w:World) (hs:s.size ≤ 65536):Calls Tryz.prog 19 #[.string s] w fun e w' => e = .returned (.int .i64 (plE s 0:Nat)) ∧ w' = w:=by
 have hnt:=(enR_run dgtN s (i:=0) (Nat.zero_le _)).top
 obtain ⟨n,hn⟩:∃ n,enR dgtN s 0 = n:=⟨_,rfl⟩
 rw [hn] at hnt
 unfold plE
 dsimp only
 rw [hn,Nat.sub_zero]
 by_cases hp:n < s.size ∧ byA s n = 46
 ·rw [if_pos hp]
  have he:=ext_run (p:=dgtN) (s:=s) (a:=n + 1) (by omega)
  obtain ⟨k,hk⟩:∃ k,enR dgtN (s.extract (n + 1) s.size) 0 = k:=⟨_,rfl⟩
  rw [hk] at he
  rw [he]
  by_cases hz:k = 0
  ·rw [if_pos (show n + 1 + k = n + 1 by omega),if_neg (show ¬ 1000 < 0 by omega)]
   exact fpl_B s w hs n hn hp k hk hz
  ·rw [if_neg (show ¬ n + 1 + k = n + 1 by omega)]
   by_cases hl:n + (1 + k) ≤ 1000
   ·rw [if_neg (show ¬ 1000 < n + 1 + k by omega),show n + 1 + k = n + (1 + k) by omega]
    exact fpl_Yl s w hs n hn hp k hk (by omega) hl
   ·rw [if_pos (show 1000 < n + 1 + k by omega)]
    exact fpl_Yg s w hs n hn hp k hk (by omega) (by omega)
 ·rw [if_neg hp]
  by_cases hl:n ≤ 1000
  ·rw [if_neg (by omega)]
   exact fpl_Nl s w hs n hn hp hl
  ·rw [if_pos (by omega)]
   exact fpl_Ng s w hs n hn hp (by omega)
end Go.Proofs.YtjoaijbhpgekoaaGreatDoor
