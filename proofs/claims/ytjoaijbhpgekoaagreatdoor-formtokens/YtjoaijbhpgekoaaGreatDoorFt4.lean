/- Ft4 -/
import Derived.Test.YtjoaijbhpgekoaaGreatDoorFt3
import Derived.Test.YtjoaijbhpgekoaaGreatDoorRp4
namespace Go.Proofs.YtjoaijbhpgekoaaGreatDoor
open Go.RowKit Go.Deep
set_option linter.unusedVariables false
def bzE (s:ByteArray):Nat :=
 if enR dgtN s (brS s 0) = brS s 0 then 0
 else if enR dgtN s (brS s 0) < s.size ∧ byA s (enR dgtN s (brS s 0)) = 47 then
  (if enR dgtN s (enR dgtN s (brS s 0) + 1) = enR dgtN s (brS s 0) + 1 then 0 else if enR dgtN s (enR dgtN s (brS s 0) + 1) < s.size ∧ byA s (enR dgtN s (enR dgtN s (brS s 0) + 1)) = 93 then enR dgtN s (enR dgtN s (brS s 0) + 1) + 1 else 0)
 else if enR dgtN s (brS s 0) < s.size ∧ byA s (enR dgtN s (brS s 0)) = 93 then enR dgtN s (brS s 0) + 1 else 0
set_option maxRecDepth 20000 in
set_option maxHeartbeats 8000000 in
theorem fbr_mZ (s:ByteArray) (w:World) (hs:s.size ≤ 65536) (h1:1 ≤ s.size) (hm:(1 < s.size ∧ byA s 1 = 45)) (d:Nat) (hd:enR dgtN (s.extract 2 s.size) 0 = d) (hz:d = 0):Calls Tryz.prog 17 #[.string s] w fun e w' => e = .returned (.int .i64 (0:Nat)) ∧ w' = w:=by
 have K1:=has_min (s.extract 1 s.size) true w (by rw [pre1_is h1]; exact decide_eq_true hm)
 have H1:=Hj K1
 have hj:2 ≤ s.size:=by omega
 have t1:(1:Int) ≤ (s.size:Int):=by omega
 have tj:(2:Int) ≤ (s.size:Int):=by omega
 have hsz:(s.extract 2 s.size).size ≤ 65536:=by rw [ByteArray.size_extract]; omega
 have hdt:=(enR_run dgtN (s.extract 2 s.size) (i:=0) (Nat.zero_le _)).top
 rw [hd,ByteArray.size_extract] at hdt
 have K2:=fdsize_any (s.extract 2 s.size) w hsz
 rw [hd] at K2
 have H2:=Hj K2
 clear K1 K2 hm hd
 subst hz
 go_enter Tryz.func17,Tryz.ntmps17
 go_wp2_with fail
 refine (Uh H1).mono ?_
 rintro _ _ ⟨rfl,hw⟩
 obtain rfl:=hw.symm
 clear hw H1
 go_wp2_with fail
 refine (Uh H2).mono ?_
 rintro _ _ ⟨rfl,hw⟩
 obtain rfl:=hw.symm
 clear hw H2
 go_wp2_with fail
 go_ret
 exact ⟨by (first | rfl | go_num),rfl⟩
set_option maxRecDepth 20000 in
set_option maxHeartbeats 8000000 in
theorem fbr_mSZ (s:ByteArray) (w:World) (hs:s.size ≤ 65536) (h1:1 ≤ s.size) (hm:(1 < s.size ∧ byA s 1 = 45)) (d:Nat) (hd:enR dgtN (s.extract 2 s.size) 0 = d) (hz:0 < d) (hp:(2 + d) < s.size ∧ byA s (2 + d) = 47) (k:Nat) (hk:enR dgtN (s.extract ((2 + d) + 1) s.size) 0 = k) (hk0:k = 0):Calls Tryz.prog 17 #[.string s] w fun e w' => e = .returned (.int .i64 (0:Nat)) ∧ w' = w:=by
 have K1:=has_min (s.extract 1 s.size) true w (by rw [pre1_is h1]; exact decide_eq_true hm)
 have H1:=Hj K1
 have hj:2 ≤ s.size:=by omega
 have t1:(1:Int) ≤ (s.size:Int):=by omega
 have tj:(2:Int) ≤ (s.size:Int):=by omega
 have hsz:(s.extract 2 s.size).size ≤ 65536:=by rw [ByteArray.size_extract]; omega
 have hdt:=(enR_run dgtN (s.extract 2 s.size) (i:=0) (Nat.zero_le _)).top
 rw [hd,ByteArray.size_extract] at hdt
 have K2:=fdsize_any (s.extract 2 s.size) w hsz
 rw [hd] at K2
 have H2:=Hj K2
 clear K1 K2 hm hd
 have td:(0:Int) < (d:Int):=by omega
 have tdz:((d:Int) == 0) = false:=by simp; omega
 have ta:(2:Int) + (d:Int) ≤ (s.size:Int):=by omega
 have K3:=has_sla (s.extract (2 + d) s.size) true w (by rw [pre1_is (by omega)]; exact decide_eq_true hp)
 have H3:=Hj K3
 have ta1:(2:Int) + (d:Int) + 1 ≤ (s.size:Int):=by omega
 have hsz2:(s.extract ((2 + d) + 1) s.size).size ≤ 65536:=by rw [ByteArray.size_extract]; omega
 have hkt:=(enR_run dgtN (s.extract ((2 + d) + 1) s.size) (i:=0) (Nat.zero_le _)).top
 rw [hk,ByteArray.size_extract] at hkt
 have K4:=fdsize_any (s.extract ((2 + d) + 1) s.size) w hsz2
 rw [hk] at K4
 have H4:=Hj K4
 clear K4 hk
 subst hk0
 clear K3 hp
 go_enter Tryz.func17,Tryz.ntmps17
 go_wp2_with fail
 refine (Uh H1).mono ?_
 rintro _ _ ⟨rfl,hw⟩
 obtain rfl:=hw.symm
 clear hw H1
 go_wp2_with fail
 refine (Uh H2).mono ?_
 rintro _ _ ⟨rfl,hw⟩
 obtain rfl:=hw.symm
 clear hw H2
 go_wp2_with fail
 refine (Uh H3).mono ?_
 rintro _ _ ⟨rfl,hw⟩
 obtain rfl:=hw.symm
 clear hw H3
 go_wp2_with fail
 refine (Uh H4).mono ?_
 rintro _ _ ⟨rfl,hw⟩
 obtain rfl:=hw.symm
 clear hw H4
 go_wp2_with fail
 go_ret
 exact ⟨by (first | rfl | go_num),rfl⟩
set_option maxRecDepth 20000 in
set_option maxHeartbeats 8000000 in
theorem fbr_mSy (s:ByteArray) (w:World) (hs:s.size ≤ 65536) (h1:1 ≤ s.size) (hm:(1 < s.size ∧ byA s 1 = 45)) (d:Nat) (hd:enR dgtN (s.extract 2 s.size) 0 = d) (hz:0 < d) (hp:(2 + d) < s.size ∧ byA s (2 + d) = 47) (k:Nat) (hk:enR dgtN (s.extract ((2 + d) + 1) s.size) 0 = k) (hk0:0 < k) (hb:(((2 + d) + (1 + k)) < s.size ∧ byA s ((2 + d) + (1 + k)) = 93)):Calls Tryz.prog 17 #[.string s] w fun e w' => e = .returned (.int .i64 ((((2 + d) + (1 + k)) + 1):Nat)) ∧ w' = w:=by
 have K1:=has_min (s.extract 1 s.size) true w (by rw [pre1_is h1]; exact decide_eq_true hm)
 have H1:=Hj K1
 have hj:2 ≤ s.size:=by omega
 have t1:(1:Int) ≤ (s.size:Int):=by omega
 have tj:(2:Int) ≤ (s.size:Int):=by omega
 have hsz:(s.extract 2 s.size).size ≤ 65536:=by rw [ByteArray.size_extract]; omega
 have hdt:=(enR_run dgtN (s.extract 2 s.size) (i:=0) (Nat.zero_le _)).top
 rw [hd,ByteArray.size_extract] at hdt
 have K2:=fdsize_any (s.extract 2 s.size) w hsz
 rw [hd] at K2
 have H2:=Hj K2
 clear K1 K2 hm hd
 have td:(0:Int) < (d:Int):=by omega
 have tdz:((d:Int) == 0) = false:=by simp; omega
 have ta:(2:Int) + (d:Int) ≤ (s.size:Int):=by omega
 have K3:=has_sla (s.extract (2 + d) s.size) true w (by rw [pre1_is (by omega)]; exact decide_eq_true hp)
 have H3:=Hj K3
 have ta1:(2:Int) + (d:Int) + 1 ≤ (s.size:Int):=by omega
 have hsz2:(s.extract ((2 + d) + 1) s.size).size ≤ 65536:=by rw [ByteArray.size_extract]; omega
 have hkt:=(enR_run dgtN (s.extract ((2 + d) + 1) s.size) (i:=0) (Nat.zero_le _)).top
 rw [hk,ByteArray.size_extract] at hkt
 have K4:=fdsize_any (s.extract ((2 + d) + 1) s.size) w hsz2
 rw [hk] at K4
 have H4:=Hj K4
 clear K4 hk
 have tk:((k:Int) == 0) = false:=by simp; omega
 have te:(2:Int) + (d:Int) + (1 + (k:Int)) ≤ (s.size:Int):=by omega
 have K5:=has_bra (s.extract ((2 + d) + (1 + k)) s.size) true w (by rw [pre1_is (by omega)]; exact decide_eq_true hb)
 have H5:=Hj K5
 clear K5 hb
 clear K3 hp
 go_enter Tryz.func17,Tryz.ntmps17
 go_wp2_with fail
 refine (Uh H1).mono ?_
 rintro _ _ ⟨rfl,hw⟩
 obtain rfl:=hw.symm
 clear hw H1
 go_wp2_with fail
 refine (Uh H2).mono ?_
 rintro _ _ ⟨rfl,hw⟩
 obtain rfl:=hw.symm
 clear hw H2
 go_wp2_with fail
 refine (Uh H3).mono ?_
 rintro _ _ ⟨rfl,hw⟩
 obtain rfl:=hw.symm
 clear hw H3
 go_wp2_with fail
 refine (Uh H4).mono ?_
 rintro _ _ ⟨rfl,hw⟩
 obtain rfl:=hw.symm
 clear hw H4
 go_wp2_with fail
 refine (Uh H5).mono ?_
 rintro _ _ ⟨rfl,hw⟩
 obtain rfl:=hw.symm
 clear hw H5
 go_wp2_with fail
 go_ret
 exact ⟨by (first | rfl | go_num),rfl⟩
set_option maxRecDepth 20000 in
set_option maxHeartbeats 8000000 in
theorem fbr_mSn (s:ByteArray) (w:World) (hs:s.size ≤ 65536) (h1:1 ≤ s.size) (hm:(1 < s.size ∧ byA s 1 = 45)) (d:Nat) (hd:enR dgtN (s.extract 2 s.size) 0 = d) (hz:0 < d) (hp:(2 + d) < s.size ∧ byA s (2 + d) = 47) (k:Nat) (hk:enR dgtN (s.extract ((2 + d) + 1) s.size) 0 = k) (hk0:0 < k) (hb:¬ (((2 + d) + (1 + k)) < s.size ∧ byA s ((2 + d) + (1 + k)) = 93)):Calls Tryz.prog 17 #[.string s] w fun e w' => e = .returned (.int .i64 (0:Nat)) ∧ w' = w:=by
 have K1:=has_min (s.extract 1 s.size) true w (by rw [pre1_is h1]; exact decide_eq_true hm)
 have H1:=Hj K1
 have hj:2 ≤ s.size:=by omega
 have t1:(1:Int) ≤ (s.size:Int):=by omega
 have tj:(2:Int) ≤ (s.size:Int):=by omega
 have hsz:(s.extract 2 s.size).size ≤ 65536:=by rw [ByteArray.size_extract]; omega
 have hdt:=(enR_run dgtN (s.extract 2 s.size) (i:=0) (Nat.zero_le _)).top
 rw [hd,ByteArray.size_extract] at hdt
 have K2:=fdsize_any (s.extract 2 s.size) w hsz
 rw [hd] at K2
 have H2:=Hj K2
 clear K1 K2 hm hd
 have td:(0:Int) < (d:Int):=by omega
 have tdz:((d:Int) == 0) = false:=by simp; omega
 have ta:(2:Int) + (d:Int) ≤ (s.size:Int):=by omega
 have K3:=has_sla (s.extract (2 + d) s.size) true w (by rw [pre1_is (by omega)]; exact decide_eq_true hp)
 have H3:=Hj K3
 have ta1:(2:Int) + (d:Int) + 1 ≤ (s.size:Int):=by omega
 have hsz2:(s.extract ((2 + d) + 1) s.size).size ≤ 65536:=by rw [ByteArray.size_extract]; omega
 have hkt:=(enR_run dgtN (s.extract ((2 + d) + 1) s.size) (i:=0) (Nat.zero_le _)).top
 rw [hk,ByteArray.size_extract] at hkt
 have K4:=fdsize_any (s.extract ((2 + d) + 1) s.size) w hsz2
 rw [hk] at K4
 have H4:=Hj K4
 clear K4 hk
 have tk:((k:Int) == 0) = false:=by simp; omega
 have te:(2:Int) + (d:Int) + (1 + (k:Int)) ≤ (s.size:Int):=by omega
 have K5:=has_bra (s.extract ((2 + d) + (1 + k)) s.size) false w (by rw [pre1_is (by omega)]; exact decide_eq_false hb)
 have H5:=Hj K5
 clear K5 hb
 clear K3 hp
 go_enter Tryz.func17,Tryz.ntmps17
 go_wp2_with fail
 refine (Uh H1).mono ?_
 rintro _ _ ⟨rfl,hw⟩
 obtain rfl:=hw.symm
 clear hw H1
 go_wp2_with fail
 refine (Uh H2).mono ?_
 rintro _ _ ⟨rfl,hw⟩
 obtain rfl:=hw.symm
 clear hw H2
 go_wp2_with fail
 refine (Uh H3).mono ?_
 rintro _ _ ⟨rfl,hw⟩
 obtain rfl:=hw.symm
 clear hw H3
 go_wp2_with fail
 refine (Uh H4).mono ?_
 rintro _ _ ⟨rfl,hw⟩
 obtain rfl:=hw.symm
 clear hw H4
 go_wp2_with fail
 refine (Uh H5).mono ?_
 rintro _ _ ⟨rfl,hw⟩
 obtain rfl:=hw.symm
 clear hw H5
 go_wp2_with fail
 go_ret
 exact ⟨by (first | rfl | go_num),rfl⟩
set_option maxRecDepth 20000 in
set_option maxHeartbeats 8000000 in
theorem fbr_my (s:ByteArray) (w:World) (hs:s.size ≤ 65536) (h1:1 ≤ s.size) (hm:(1 < s.size ∧ byA s 1 = 45)) (d:Nat) (hd:enR dgtN (s.extract 2 s.size) 0 = d) (hz:0 < d) (hp:¬ ((2 + d) < s.size ∧ byA s (2 + d) = 47)) (hb:((2 + d) < s.size ∧ byA s (2 + d) = 93)):Calls Tryz.prog 17 #[.string s] w fun e w' => e = .returned (.int .i64 (((2 + d) + 1):Nat)) ∧ w' = w:=by
 have K1:=has_min (s.extract 1 s.size) true w (by rw [pre1_is h1]; exact decide_eq_true hm)
 have H1:=Hj K1
 have hj:2 ≤ s.size:=by omega
 have t1:(1:Int) ≤ (s.size:Int):=by omega
 have tj:(2:Int) ≤ (s.size:Int):=by omega
 have hsz:(s.extract 2 s.size).size ≤ 65536:=by rw [ByteArray.size_extract]; omega
 have hdt:=(enR_run dgtN (s.extract 2 s.size) (i:=0) (Nat.zero_le _)).top
 rw [hd,ByteArray.size_extract] at hdt
 have K2:=fdsize_any (s.extract 2 s.size) w hsz
 rw [hd] at K2
 have H2:=Hj K2
 clear K1 K2 hm hd
 have td:(0:Int) < (d:Int):=by omega
 have tdz:((d:Int) == 0) = false:=by simp; omega
 have ta:(2:Int) + (d:Int) ≤ (s.size:Int):=by omega
 have K3:=has_sla (s.extract (2 + d) s.size) false w (by rw [pre1_is (by omega)]; exact decide_eq_false hp)
 have H3:=Hj K3
 have K5:=has_bra (s.extract (2 + d) s.size) true w (by rw [pre1_is (by omega)]; exact decide_eq_true hb)
 have H5:=Hj K5
 clear K5 hb
 clear K3 hp
 go_enter Tryz.func17,Tryz.ntmps17
 go_wp2_with fail
 refine (Uh H1).mono ?_
 rintro _ _ ⟨rfl,hw⟩
 obtain rfl:=hw.symm
 clear hw H1
 go_wp2_with fail
 refine (Uh H2).mono ?_
 rintro _ _ ⟨rfl,hw⟩
 obtain rfl:=hw.symm
 clear hw H2
 go_wp2_with fail
 refine (Uh H3).mono ?_
 rintro _ _ ⟨rfl,hw⟩
 obtain rfl:=hw.symm
 clear hw H3
 go_wp2_with fail
 refine (Uh H5).mono ?_
 rintro _ _ ⟨rfl,hw⟩
 obtain rfl:=hw.symm
 clear hw H5
 go_wp2_with fail
 go_ret
 exact ⟨by (first | rfl | go_num),rfl⟩
set_option maxRecDepth 20000 in
set_option maxHeartbeats 8000000 in
theorem fbr_mn (s:ByteArray) (w:World) (hs:s.size ≤ 65536) (h1:1 ≤ s.size) (hm:(1 < s.size ∧ byA s 1 = 45)) (d:Nat) (hd:enR dgtN (s.extract 2 s.size) 0 = d) (hz:0 < d) (hp:¬ ((2 + d) < s.size ∧ byA s (2 + d) = 47)) (hb:¬ ((2 + d) < s.size ∧ byA s (2 + d) = 93)):Calls Tryz.prog 17 #[.string s] w fun e w' => e = .returned (.int .i64 (0:Nat)) ∧ w' = w:=by
 have K1:=has_min (s.extract 1 s.size) true w (by rw [pre1_is h1]; exact decide_eq_true hm)
 have H1:=Hj K1
 have hj:2 ≤ s.size:=by omega
 have t1:(1:Int) ≤ (s.size:Int):=by omega
 have tj:(2:Int) ≤ (s.size:Int):=by omega
 have hsz:(s.extract 2 s.size).size ≤ 65536:=by rw [ByteArray.size_extract]; omega
 have hdt:=(enR_run dgtN (s.extract 2 s.size) (i:=0) (Nat.zero_le _)).top
 rw [hd,ByteArray.size_extract] at hdt
 have K2:=fdsize_any (s.extract 2 s.size) w hsz
 rw [hd] at K2
 have H2:=Hj K2
 clear K1 K2 hm hd
 have td:(0:Int) < (d:Int):=by omega
 have tdz:((d:Int) == 0) = false:=by simp; omega
 have ta:(2:Int) + (d:Int) ≤ (s.size:Int):=by omega
 have K3:=has_sla (s.extract (2 + d) s.size) false w (by rw [pre1_is (by omega)]; exact decide_eq_false hp)
 have H3:=Hj K3
 have K5:=has_bra (s.extract (2 + d) s.size) false w (by rw [pre1_is (by omega)]; exact decide_eq_false hb)
 have H5:=Hj K5
 clear K5 hb
 clear K3 hp
 go_enter Tryz.func17,Tryz.ntmps17
 go_wp2_with fail
 refine (Uh H1).mono ?_
 rintro _ _ ⟨rfl,hw⟩
 obtain rfl:=hw.symm
 clear hw H1
 go_wp2_with fail
 refine (Uh H2).mono ?_
 rintro _ _ ⟨rfl,hw⟩
 obtain rfl:=hw.symm
 clear hw H2
 go_wp2_with fail
 refine (Uh H3).mono ?_
 rintro _ _ ⟨rfl,hw⟩
 obtain rfl:=hw.symm
 clear hw H3
 go_wp2_with fail
 refine (Uh H5).mono ?_
 rintro _ _ ⟨rfl,hw⟩
 obtain rfl:=hw.symm
 clear hw H5
 go_wp2_with fail
 go_ret
 exact ⟨by (first | rfl | go_num),rfl⟩
set_option maxRecDepth 20000 in
set_option maxHeartbeats 8000000 in
theorem fbr_pZ (s:ByteArray) (w:World) (hs:s.size ≤ 65536) (h1:1 ≤ s.size) (hm:¬ (1 < s.size ∧ byA s 1 = 45)) (d:Nat) (hd:enR dgtN (s.extract 1 s.size) 0 = d) (hz:d = 0):Calls Tryz.prog 17 #[.string s] w fun e w' => e = .returned (.int .i64 (0:Nat)) ∧ w' = w:=by
 have K1:=has_min (s.extract 1 s.size) false w (by rw [pre1_is h1]; exact decide_eq_false hm)
 have H1:=Hj K1
 have hj:1 ≤ s.size:=by omega
 have t1:(1:Int) ≤ (s.size:Int):=by omega
 have tj:(1:Int) ≤ (s.size:Int):=by omega
 have hsz:(s.extract 1 s.size).size ≤ 65536:=by rw [ByteArray.size_extract]; omega
 have hdt:=(enR_run dgtN (s.extract 1 s.size) (i:=0) (Nat.zero_le _)).top
 rw [hd,ByteArray.size_extract] at hdt
 have K2:=fdsize_any (s.extract 1 s.size) w hsz
 rw [hd] at K2
 have H2:=Hj K2
 clear K1 K2 hm hd
 subst hz
 go_enter Tryz.func17,Tryz.ntmps17
 go_wp2_with fail
 refine (Uh H1).mono ?_
 rintro _ _ ⟨rfl,hw⟩
 obtain rfl:=hw.symm
 clear hw H1
 go_wp2_with fail
 refine (Uh H2).mono ?_
 rintro _ _ ⟨rfl,hw⟩
 obtain rfl:=hw.symm
 clear hw H2
 go_wp2_with fail
 go_ret
 exact ⟨by (first | rfl | go_num),rfl⟩
set_option maxRecDepth 20000 in
set_option maxHeartbeats 8000000 in
theorem fbr_pSZ (s:ByteArray) (w:World) (hs:s.size ≤ 65536) (h1:1 ≤ s.size) (hm:¬ (1 < s.size ∧ byA s 1 = 45)) (d:Nat) (hd:enR dgtN (s.extract 1 s.size) 0 = d) (hz:0 < d) (hp:(1 + d) < s.size ∧ byA s (1 + d) = 47) (k:Nat) (hk:enR dgtN (s.extract ((1 + d) + 1) s.size) 0 = k) (hk0:k = 0):Calls Tryz.prog 17 #[.string s] w fun e w' => e = .returned (.int .i64 (0:Nat)) ∧ w' = w:=by
 have K1:=has_min (s.extract 1 s.size) false w (by rw [pre1_is h1]; exact decide_eq_false hm)
 have H1:=Hj K1
 have hj:1 ≤ s.size:=by omega
 have t1:(1:Int) ≤ (s.size:Int):=by omega
 have tj:(1:Int) ≤ (s.size:Int):=by omega
 have hsz:(s.extract 1 s.size).size ≤ 65536:=by rw [ByteArray.size_extract]; omega
 have hdt:=(enR_run dgtN (s.extract 1 s.size) (i:=0) (Nat.zero_le _)).top
 rw [hd,ByteArray.size_extract] at hdt
 have K2:=fdsize_any (s.extract 1 s.size) w hsz
 rw [hd] at K2
 have H2:=Hj K2
 clear K1 K2 hm hd
 have td:(0:Int) < (d:Int):=by omega
 have tdz:((d:Int) == 0) = false:=by simp; omega
 have ta:(1:Int) + (d:Int) ≤ (s.size:Int):=by omega
 have K3:=has_sla (s.extract (1 + d) s.size) true w (by rw [pre1_is (by omega)]; exact decide_eq_true hp)
 have H3:=Hj K3
 have ta1:(1:Int) + (d:Int) + 1 ≤ (s.size:Int):=by omega
 have hsz2:(s.extract ((1 + d) + 1) s.size).size ≤ 65536:=by rw [ByteArray.size_extract]; omega
 have hkt:=(enR_run dgtN (s.extract ((1 + d) + 1) s.size) (i:=0) (Nat.zero_le _)).top
 rw [hk,ByteArray.size_extract] at hkt
 have K4:=fdsize_any (s.extract ((1 + d) + 1) s.size) w hsz2
 rw [hk] at K4
 have H4:=Hj K4
 clear K4 hk
 subst hk0
 clear K3 hp
 go_enter Tryz.func17,Tryz.ntmps17
 go_wp2_with fail
 refine (Uh H1).mono ?_
 rintro _ _ ⟨rfl,hw⟩
 obtain rfl:=hw.symm
 clear hw H1
 go_wp2_with fail
 refine (Uh H2).mono ?_
 rintro _ _ ⟨rfl,hw⟩
 obtain rfl:=hw.symm
 clear hw H2
 go_wp2_with fail
 refine (Uh H3).mono ?_
 rintro _ _ ⟨rfl,hw⟩
 obtain rfl:=hw.symm
 clear hw H3
 go_wp2_with fail
 refine (Uh H4).mono ?_
 rintro _ _ ⟨rfl,hw⟩
 obtain rfl:=hw.symm
 clear hw H4
 go_wp2_with fail
 go_ret
 exact ⟨by (first | rfl | go_num),rfl⟩
set_option maxRecDepth 20000 in
set_option maxHeartbeats 8000000 in
theorem fbr_pSy (s:ByteArray) (w:World) (hs:s.size ≤ 65536) (h1:1 ≤ s.size) (hm:¬ (1 < s.size ∧ byA s 1 = 45)) (d:Nat) (hd:enR dgtN (s.extract 1 s.size) 0 = d) (hz:0 < d) (hp:(1 + d) < s.size ∧ byA s (1 + d) = 47) (k:Nat) (hk:enR dgtN (s.extract ((1 + d) + 1) s.size) 0 = k) (hk0:0 < k) (hb:(((1 + d) + (1 + k)) < s.size ∧ byA s ((1 + d) + (1 + k)) = 93)):Calls Tryz.prog 17 #[.string s] w fun e w' => e = .returned (.int .i64 ((((1 + d) + (1 + k)) + 1):Nat)) ∧ w' = w:=by
 have K1:=has_min (s.extract 1 s.size) false w (by rw [pre1_is h1]; exact decide_eq_false hm)
 have H1:=Hj K1
 have hj:1 ≤ s.size:=by omega
 have t1:(1:Int) ≤ (s.size:Int):=by omega
 have tj:(1:Int) ≤ (s.size:Int):=by omega
 have hsz:(s.extract 1 s.size).size ≤ 65536:=by rw [ByteArray.size_extract]; omega
 have hdt:=(enR_run dgtN (s.extract 1 s.size) (i:=0) (Nat.zero_le _)).top
 rw [hd,ByteArray.size_extract] at hdt
 have K2:=fdsize_any (s.extract 1 s.size) w hsz
 rw [hd] at K2
 have H2:=Hj K2
 clear K1 K2 hm hd
 have td:(0:Int) < (d:Int):=by omega
 have tdz:((d:Int) == 0) = false:=by simp; omega
 have ta:(1:Int) + (d:Int) ≤ (s.size:Int):=by omega
 have K3:=has_sla (s.extract (1 + d) s.size) true w (by rw [pre1_is (by omega)]; exact decide_eq_true hp)
 have H3:=Hj K3
 have ta1:(1:Int) + (d:Int) + 1 ≤ (s.size:Int):=by omega
 have hsz2:(s.extract ((1 + d) + 1) s.size).size ≤ 65536:=by rw [ByteArray.size_extract]; omega
 have hkt:=(enR_run dgtN (s.extract ((1 + d) + 1) s.size) (i:=0) (Nat.zero_le _)).top
 rw [hk,ByteArray.size_extract] at hkt
 have K4:=fdsize_any (s.extract ((1 + d) + 1) s.size) w hsz2
 rw [hk] at K4
 have H4:=Hj K4
 clear K4 hk
 have tk:((k:Int) == 0) = false:=by simp; omega
 have te:(1:Int) + (d:Int) + (1 + (k:Int)) ≤ (s.size:Int):=by omega
 have K5:=has_bra (s.extract ((1 + d) + (1 + k)) s.size) true w (by rw [pre1_is (by omega)]; exact decide_eq_true hb)
 have H5:=Hj K5
 clear K5 hb
 clear K3 hp
 go_enter Tryz.func17,Tryz.ntmps17
 go_wp2_with fail
 refine (Uh H1).mono ?_
 rintro _ _ ⟨rfl,hw⟩
 obtain rfl:=hw.symm
 clear hw H1
 go_wp2_with fail
 refine (Uh H2).mono ?_
 rintro _ _ ⟨rfl,hw⟩
 obtain rfl:=hw.symm
 clear hw H2
 go_wp2_with fail
 refine (Uh H3).mono ?_
 rintro _ _ ⟨rfl,hw⟩
 obtain rfl:=hw.symm
 clear hw H3
 go_wp2_with fail
 refine (Uh H4).mono ?_
 rintro _ _ ⟨rfl,hw⟩
 obtain rfl:=hw.symm
 clear hw H4
 go_wp2_with fail
 refine (Uh H5).mono ?_
 rintro _ _ ⟨rfl,hw⟩
 obtain rfl:=hw.symm
 clear hw H5
 go_wp2_with fail
 go_ret
 exact ⟨by (first | rfl | go_num),rfl⟩
set_option maxRecDepth 20000 in
set_option maxHeartbeats 8000000 in
theorem fbr_pSn (s:ByteArray) (w:World) (hs:s.size ≤ 65536) (h1:1 ≤ s.size) (hm:¬ (1 < s.size ∧ byA s 1 = 45)) (d:Nat) (hd:enR dgtN (s.extract 1 s.size) 0 = d) (hz:0 < d) (hp:(1 + d) < s.size ∧ byA s (1 + d) = 47) (k:Nat) (hk:enR dgtN (s.extract ((1 + d) + 1) s.size) 0 = k) (hk0:0 < k) (hb:¬ (((1 + d) + (1 + k)) < s.size ∧ byA s ((1 + d) + (1 + k)) = 93)):Calls Tryz.prog 17 #[.string s] w fun e w' => e = .returned (.int .i64 (0:Nat)) ∧ w' = w:=by
 have K1:=has_min (s.extract 1 s.size) false w (by rw [pre1_is h1]; exact decide_eq_false hm)
 have H1:=Hj K1
 have hj:1 ≤ s.size:=by omega
 have t1:(1:Int) ≤ (s.size:Int):=by omega
 have tj:(1:Int) ≤ (s.size:Int):=by omega
 have hsz:(s.extract 1 s.size).size ≤ 65536:=by rw [ByteArray.size_extract]; omega
 have hdt:=(enR_run dgtN (s.extract 1 s.size) (i:=0) (Nat.zero_le _)).top
 rw [hd,ByteArray.size_extract] at hdt
 have K2:=fdsize_any (s.extract 1 s.size) w hsz
 rw [hd] at K2
 have H2:=Hj K2
 clear K1 K2 hm hd
 have td:(0:Int) < (d:Int):=by omega
 have tdz:((d:Int) == 0) = false:=by simp; omega
 have ta:(1:Int) + (d:Int) ≤ (s.size:Int):=by omega
 have K3:=has_sla (s.extract (1 + d) s.size) true w (by rw [pre1_is (by omega)]; exact decide_eq_true hp)
 have H3:=Hj K3
 have ta1:(1:Int) + (d:Int) + 1 ≤ (s.size:Int):=by omega
 have hsz2:(s.extract ((1 + d) + 1) s.size).size ≤ 65536:=by rw [ByteArray.size_extract]; omega
 have hkt:=(enR_run dgtN (s.extract ((1 + d) + 1) s.size) (i:=0) (Nat.zero_le _)).top
 rw [hk,ByteArray.size_extract] at hkt
 have K4:=fdsize_any (s.extract ((1 + d) + 1) s.size) w hsz2
 rw [hk] at K4
 have H4:=Hj K4
 clear K4 hk
 have tk:((k:Int) == 0) = false:=by simp; omega
 have te:(1:Int) + (d:Int) + (1 + (k:Int)) ≤ (s.size:Int):=by omega
 have K5:=has_bra (s.extract ((1 + d) + (1 + k)) s.size) false w (by rw [pre1_is (by omega)]; exact decide_eq_false hb)
 have H5:=Hj K5
 clear K5 hb
 clear K3 hp
 go_enter Tryz.func17,Tryz.ntmps17
 go_wp2_with fail
 refine (Uh H1).mono ?_
 rintro _ _ ⟨rfl,hw⟩
 obtain rfl:=hw.symm
 clear hw H1
 go_wp2_with fail
 refine (Uh H2).mono ?_
 rintro _ _ ⟨rfl,hw⟩
 obtain rfl:=hw.symm
 clear hw H2
 go_wp2_with fail
 refine (Uh H3).mono ?_
 rintro _ _ ⟨rfl,hw⟩
 obtain rfl:=hw.symm
 clear hw H3
 go_wp2_with fail
 refine (Uh H4).mono ?_
 rintro _ _ ⟨rfl,hw⟩
 obtain rfl:=hw.symm
 clear hw H4
 go_wp2_with fail
 refine (Uh H5).mono ?_
 rintro _ _ ⟨rfl,hw⟩
 obtain rfl:=hw.symm
 clear hw H5
 go_wp2_with fail
 go_ret
 exact ⟨by (first | rfl | go_num),rfl⟩
set_option maxRecDepth 20000 in
set_option maxHeartbeats 8000000 in
theorem fbr_py (s:ByteArray) (w:World) (hs:s.size ≤ 65536) (h1:1 ≤ s.size) (hm:¬ (1 < s.size ∧ byA s 1 = 45)) (d:Nat) (hd:enR dgtN (s.extract 1 s.size) 0 = d) (hz:0 < d) (hp:¬ ((1 + d) < s.size ∧ byA s (1 + d) = 47)) (hb:((1 + d) < s.size ∧ byA s (1 + d) = 93)):Calls Tryz.prog 17 #[.string s] w fun e w' => e = .returned (.int .i64 (((1 + d) + 1):Nat)) ∧ w' = w:=by
 have K1:=has_min (s.extract 1 s.size) false w (by rw [pre1_is h1]; exact decide_eq_false hm)
 have H1:=Hj K1
 have hj:1 ≤ s.size:=by omega
 have t1:(1:Int) ≤ (s.size:Int):=by omega
 have tj:(1:Int) ≤ (s.size:Int):=by omega
 have hsz:(s.extract 1 s.size).size ≤ 65536:=by rw [ByteArray.size_extract]; omega
 have hdt:=(enR_run dgtN (s.extract 1 s.size) (i:=0) (Nat.zero_le _)).top
 rw [hd,ByteArray.size_extract] at hdt
 have K2:=fdsize_any (s.extract 1 s.size) w hsz
 rw [hd] at K2
 have H2:=Hj K2
 clear K1 K2 hm hd
 have td:(0:Int) < (d:Int):=by omega
 have tdz:((d:Int) == 0) = false:=by simp; omega
 have ta:(1:Int) + (d:Int) ≤ (s.size:Int):=by omega
 have K3:=has_sla (s.extract (1 + d) s.size) false w (by rw [pre1_is (by omega)]; exact decide_eq_false hp)
 have H3:=Hj K3
 have K5:=has_bra (s.extract (1 + d) s.size) true w (by rw [pre1_is (by omega)]; exact decide_eq_true hb)
 have H5:=Hj K5
 clear K5 hb
 clear K3 hp
 go_enter Tryz.func17,Tryz.ntmps17
 go_wp2_with fail
 refine (Uh H1).mono ?_
 rintro _ _ ⟨rfl,hw⟩
 obtain rfl:=hw.symm
 clear hw H1
 go_wp2_with fail
 refine (Uh H2).mono ?_
 rintro _ _ ⟨rfl,hw⟩
 obtain rfl:=hw.symm
 clear hw H2
 go_wp2_with fail
 refine (Uh H3).mono ?_
 rintro _ _ ⟨rfl,hw⟩
 obtain rfl:=hw.symm
 clear hw H3
 go_wp2_with fail
 refine (Uh H5).mono ?_
 rintro _ _ ⟨rfl,hw⟩
 obtain rfl:=hw.symm
 clear hw H5
 go_wp2_with fail
 go_ret
 exact ⟨by (first | rfl | go_num),rfl⟩
set_option maxRecDepth 20000 in
set_option maxHeartbeats 8000000 in
theorem fbr_pn (s:ByteArray) (w:World) (hs:s.size ≤ 65536) (h1:1 ≤ s.size) (hm:¬ (1 < s.size ∧ byA s 1 = 45)) (d:Nat) (hd:enR dgtN (s.extract 1 s.size) 0 = d) (hz:0 < d) (hp:¬ ((1 + d) < s.size ∧ byA s (1 + d) = 47)) (hb:¬ ((1 + d) < s.size ∧ byA s (1 + d) = 93)):Calls Tryz.prog 17 #[.string s] w fun e w' => e = .returned (.int .i64 (0:Nat)) ∧ w' = w:=by
 have K1:=has_min (s.extract 1 s.size) false w (by rw [pre1_is h1]; exact decide_eq_false hm)
 have H1:=Hj K1
 have hj:1 ≤ s.size:=by omega
 have t1:(1:Int) ≤ (s.size:Int):=by omega
 have tj:(1:Int) ≤ (s.size:Int):=by omega
 have hsz:(s.extract 1 s.size).size ≤ 65536:=by rw [ByteArray.size_extract]; omega
 have hdt:=(enR_run dgtN (s.extract 1 s.size) (i:=0) (Nat.zero_le _)).top
 rw [hd,ByteArray.size_extract] at hdt
 have K2:=fdsize_any (s.extract 1 s.size) w hsz
 rw [hd] at K2
 have H2:=Hj K2
 clear K1 K2 hm hd
 have td:(0:Int) < (d:Int):=by omega
 have tdz:((d:Int) == 0) = false:=by simp; omega
 have ta:(1:Int) + (d:Int) ≤ (s.size:Int):=by omega
 have K3:=has_sla (s.extract (1 + d) s.size) false w (by rw [pre1_is (by omega)]; exact decide_eq_false hp)
 have H3:=Hj K3
 have K5:=has_bra (s.extract (1 + d) s.size) false w (by rw [pre1_is (by omega)]; exact decide_eq_false hb)
 have H5:=Hj K5
 clear K5 hb
 clear K3 hp
 go_enter Tryz.func17,Tryz.ntmps17
 go_wp2_with fail
 refine (Uh H1).mono ?_
 rintro _ _ ⟨rfl,hw⟩
 obtain rfl:=hw.symm
 clear hw H1
 go_wp2_with fail
 refine (Uh H2).mono ?_
 rintro _ _ ⟨rfl,hw⟩
 obtain rfl:=hw.symm
 clear hw H2
 go_wp2_with fail
 refine (Uh H3).mono ?_
 rintro _ _ ⟨rfl,hw⟩
 obtain rfl:=hw.symm
 clear hw H3
 go_wp2_with fail
 refine (Uh H5).mono ?_
 rintro _ _ ⟨rfl,hw⟩
 obtain rfl:=hw.symm
 clear hw H5
 go_wp2_with fail
 go_ret
 exact ⟨by (first | rfl | go_num),rfl⟩
theorem fbrack_any (s:ByteArray) (w:World) (hs:s.size ≤ 65536) (h1:1 ≤ s.size):Calls Tryz.prog 17 #[.string s] w fun e w' => e = .returned (.int .i64 (bzE s:Nat)) ∧ w' = w:=by
 unfold bzE
 by_cases hm:1 < s.size ∧ byA s 1 = 45
 ·have hB:brS s 0 = 2:=by unfold brS; rw [if_pos hm]
  have he:=ext_run (p:=dgtN) (s:=s) (a:=2) (by omega)
  have hdt:=(enR_run dgtN (s.extract 2 s.size) (i:=0) (Nat.zero_le _)).top
  obtain ⟨d,hd⟩:∃ d,enR dgtN (s.extract 2 s.size) 0 = d:=⟨_,rfl⟩
  rw [hd] at he hdt
  rw [ByteArray.size_extract] at hdt
  rw [hB,he]
  by_cases hz:d = 0
  ·rw [if_pos (show 2 + d = 2 by omega)]
   exact fbr_mZ s w hs h1 hm d hd hz
  ·rw [if_neg (show ¬ 2 + d = 2 by omega)]
   by_cases hp:2 + d < s.size ∧ byA s (2 + d) = 47
   ·rw [if_pos hp]
    have he2:=ext_run (p:=dgtN) (s:=s) (a:=2 + d + 1) (by omega)
    obtain ⟨k,hk⟩:∃ k,enR dgtN (s.extract (2 + d + 1) s.size) 0 = k:=⟨_,rfl⟩
    rw [hk] at he2
    rw [he2]
    by_cases hk0:k = 0
    ·rw [if_pos (show 2 + d + 1 + k = 2 + d + 1 by omega)]
     exact fbr_mSZ s w hs h1 hm d hd (by omega) hp k hk hk0
    ·rw [if_neg (show ¬ 2 + d + 1 + k = 2 + d + 1 by omega),show 2 + d + 1 + k = 2 + d + (1 + k) by omega]
     by_cases hb:2 + d + (1 + k) < s.size ∧ byA s (2 + d + (1 + k)) = 93
     ·rw [if_pos hb]
      exact fbr_mSy s w hs h1 hm d hd (by omega) hp k hk (by omega) hb
     ·rw [if_neg hb]
      exact fbr_mSn s w hs h1 hm d hd (by omega) hp k hk (by omega) hb
   ·rw [if_neg hp]
    by_cases hb:2 + d < s.size ∧ byA s (2 + d) = 93
    ·rw [if_pos hb]
     exact fbr_my s w hs h1 hm d hd (by omega) hp hb
    ·rw [if_neg hb]
     exact fbr_mn s w hs h1 hm d hd (by omega) hp hb
 ·have hB:brS s 0 = 1:=by unfold brS; rw [if_neg hm]
  have he:=ext_run (p:=dgtN) (s:=s) (a:=1) (by omega)
  have hdt:=(enR_run dgtN (s.extract 1 s.size) (i:=0) (Nat.zero_le _)).top
  obtain ⟨d,hd⟩:∃ d,enR dgtN (s.extract 1 s.size) 0 = d:=⟨_,rfl⟩
  rw [hd] at he hdt
  rw [ByteArray.size_extract] at hdt
  rw [hB,he]
  by_cases hz:d = 0
  ·rw [if_pos (show 1 + d = 1 by omega)]
   exact fbr_pZ s w hs h1 hm d hd hz
  ·rw [if_neg (show ¬ 1 + d = 1 by omega)]
   by_cases hp:1 + d < s.size ∧ byA s (1 + d) = 47
   ·rw [if_pos hp]
    have he2:=ext_run (p:=dgtN) (s:=s) (a:=1 + d + 1) (by omega)
    obtain ⟨k,hk⟩:∃ k,enR dgtN (s.extract (1 + d + 1) s.size) 0 = k:=⟨_,rfl⟩
    rw [hk] at he2
    rw [he2]
    by_cases hk0:k = 0
    ·rw [if_pos (show 1 + d + 1 + k = 1 + d + 1 by omega)]
     exact fbr_pSZ s w hs h1 hm d hd (by omega) hp k hk hk0
    ·rw [if_neg (show ¬ 1 + d + 1 + k = 1 + d + 1 by omega),show 1 + d + 1 + k = 1 + d + (1 + k) by omega]
     by_cases hb:1 + d + (1 + k) < s.size ∧ byA s (1 + d + (1 + k)) = 93
     ·rw [if_pos hb]
      exact fbr_pSy s w hs h1 hm d hd (by omega) hp k hk (by omega) hb
     ·rw [if_neg hb]
      exact fbr_pSn s w hs h1 hm d hd (by omega) hp k hk (by omega) hb
   ·rw [if_neg hp]
    by_cases hb:1 + d < s.size ∧ byA s (1 + d) = 93
    ·rw [if_pos hb]
     exact fbr_py s w hs h1 hm d hd (by omega) hp hb
    ·rw [if_neg hb]
     exact fbr_pn s w hs h1 hm d hd (by omega) hp hb
end Go.Proofs.YtjoaijbhpgekoaaGreatDoor
