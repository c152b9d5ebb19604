/- Pw2 -/
import Derived.Test.YtpbcnkcnjnefiaaGreatDoorPw1
import Derived.Test.YtpbcnkcnjnefiaaGreatDoorPa2
import Derived.Test.YtpbcnkcnjnefiaaGreatDoorCmp
import Derived.Test.YtpbcnkcnjnefiaaGreatDoorGb
import Derived.Test.YtpbcnkcnjnefiaaGreatDoorPr3
import Derived.Test.YtpbcnkcnjnefiaaGreatDoorRp3
import Derived.Test.YtpbcnkcnjnefiaaGreatDoorPa6
import Derived.Laws.IdiomStrings
import Derived.Test.YtpbcnkcnjnefiaaGreatDoorRq0
namespace Go.Proofs.YtpbcnkcnjnefiaaGreatDoor
open Go.RowKit Go.Deep
set_option linter.unusedVariables false
def powL (xs:List Nat) (k:Int):List Nat × Int:=if MayL xs then (if k < 0 ∨ 1024 < k then ([],1) else fitL (val xs ^ k.toNat)) else ([],20)

theorem big_len {v E:Nat} (hE:65536 ≤ E) (h:2 ^ E ≤ v):2048 < (limbs v).length:=by
 rcases Nat.lt_or_ge 2048 (limbs v).length with k | k
 ·exact k
 ·exfalso
  have h1:=val_lt (limbs_rep v).ok
  rw [(limbs_rep v).val,pow_limb] at h1
  have:=(Nat.pow_lt_pow_iff_right (by decide:1 < 2)).1 (Nat.lt_of_le_of_lt h h1)
  omega

theorem pow_big {xs:List Nat} {k:Nat} (ox:Ok xs) (nx:Norm xs) (h:65536 ≤ ((bitsN xs:Int) - 1) * (k:Int)):2048 < (limbs (val xs ^ k)).length:=by
 have h0:xs ≠ []:=by
  intro e
  subst e
  simp only [bitsN,if_true] at h
  have:(((0:Nat):Int) - 1) * (k:Int) = -(k:Int):=by rw [show ((0:Nat):Int) - 1 = -1 from rfl,Int.neg_mul,Int.one_mul]
  omega
 have hb:=val_ge_bits ox nx h0
 have e:bitsN xs = bitsL xs:=by unfold bitsN; rw [if_neg h0]
 rw [e] at h
 have h1:(2 ^ (bitsL xs - 1)) ^ k ≤ val xs ^ k:=Nat.pow_le_pow_left hb.2 k
 rw [← Nat.pow_mul] at h1
 refine big_len ?_ h1
 have h2:(((bitsL xs - 1) * k:Nat):Int) = ((bitsL xs:Int) - 1) * (k:Int):=by
  rw [Int.natCast_mul,Int.natCast_sub hb.1]; rfl
 omega

theorem pow_prod {u k:Nat} (hu:u ≤ 100000) (hk:k ≤ 1024):-1024 ≤ ((u:Int) - 1) * (k:Int) ∧ ((u:Int) - 1) * (k:Int) ≤ 102400000:=by
 rcases u with _ | u
 ·have:(((0:Nat):Int) - 1) * (k:Int) = -(k:Int):=by rw [show ((0:Nat):Int) - 1 = -1 from rfl,Int.neg_mul,Int.one_mul]
  omega
 ·have e:(((u + 1:Nat):Int) - 1) * (k:Int) = ((u * k:Nat):Int):=by rw [Int.natCast_mul]; congr 1; omega
  have:u * k ≤ 100000 * 1024:=Nat.mul_le_mul (by omega) hk
  rw [e]
  omega

set_option maxHeartbeats 2000000 in
theorem npow_any (a:Option Addr) (n c:Nat) (xs:List Nat) (k:Int) (w:World) (h:Sl w a n c xs) (ox:Ok xs) :
  Calls Tryz.prog 51 #[.slice a n c,.int .i64 k] w fun e w' => Res2 w w' (powL xs k) e:=by
 have K1:=may_any a n c xs w h
 by_cases m1:MayL xs = true
 ·rw [m1] at K1
  have K1':=Hd K1
  by_cases hk:k < 0
  ·have HC:=Hd (show powL xs k = ([],1) from by simp [powL,m1,hk])
   clear K1 m1 h ox
   go_enter Tryz.func51,Tryz.ntmps51
   go_wp2_with fail
   refine (Uh K1').mono ?_
   rintro e w' ⟨rfl,hw⟩
   obtain rfl:=hw.symm
   go_wp2
   go_ret2
   rw [Uh HC]
   exact ⟨none,0,0,rfl,sl_nil _,newAt_nil _,Below.refl _ _⟩
  ·by_cases hk2:1024 < k
   ·have HC:=Hd (show powL xs k = ([],1) from by simp [powL,m1,hk2])
    clear K1 m1 h ox
    go_enter Tryz.func51,Tryz.ntmps51
    go_wp2_with fail
    refine (Uh K1').mono ?_
    rintro e w' ⟨rfl,hw⟩
    obtain rfl:=hw.symm
    go_wp2
    go_ret2
    rw [Uh HC]
    exact ⟨none,0,0,rfl,sl_nil _,newAt_nil _,Below.refl _ _⟩
   ·obtain ⟨j,rfl⟩:∃ j:Nat,k = (j:Int):=⟨k.toNat,by omega⟩
    have HC:=Hd (show powL xs (j:Int) = fitL (val xs ^ j) from by simp [powL,m1,hk,hk2])
    have nx:=MayL.norm m1
    have hl:n ≤ 2048:=by have:=h.len; have:=MayL.len m1; omega
    have KB:=Hd (bitLen_all a n c xs w h ox (by omega))
    have KP:=Hd (power_any a n c xs j w h ox (by omega) (by omega))
    have HBig:=Hd (pow_big (k:=j) ox nx)
    have hpb:=pow_prod (k:=j) (bitsN_le ox (MayL.len m1)) (by omega)
    have hub:=bitsN_le ox (MayL.len m1)
    generalize bitsN xs = u at *
    generalize hp:((u:Int) - 1) * (j:Int) = p at *
    clear K1 m1 h ox nx
    by_cases hbig:65536 ≤ p
    ·have HF:=Hd (fitL_big (Uh HBig hbig))
     clear KP
     go_enter Tryz.func51,Tryz.ntmps51
     go_wp2_with fail
     refine (Uh K1').mono ?_
     rintro e w' ⟨rfl,hw⟩
     obtain rfl:=hw.symm
     go_wp2_with fail
     refine (Uh KB).mono ?_
     rintro e w' ⟨rfl,hw⟩
     obtain rfl:=hw.symm
     go_wp2
     go_ret2
     rw [Uh HC,Uh HF]
     exact ⟨none,0,0,rfl,sl_nil _,newAt_nil _,Below.refl _ _⟩
    ·go_enter Tryz.func51,Tryz.ntmps51
     go_wp2_with fail
     refine (Uh K1').mono ?_
     rintro e w' ⟨rfl,hw⟩
     obtain rfl:=hw.symm
     go_wp2_with fail
     refine (Uh KB).mono ?_
     rintro e w' ⟨rfl,hw⟩
     obtain rfl:=hw.symm
     go_wp2_with fail
     refine (Uh KP).mono ?_
     rintro e w1 ⟨a',m,zs,rfl,hs,hr,ha,hb⟩
     have KF:=Hd (fit_any a' m m _ zs w1 hs hr)
     have HA:=Hd (And.intro ha hb)
     clear hs hr ha hb KP
     go_wp2_with fail
     refine (Uh KF).mono ?_
     rintro e w' ⟨a2,m2,c2,rfl,hs,ha2,hw⟩
     obtain rfl:=hw.symm
     have HS:=Hd (And.intro hs ha2)
     clear hs ha2 hw
     go_wp2
     go_ret2
     rw [Uh HC]
     refine ⟨a2,m2,c2,rfl,(Uh HS).1,?_,(Uh HA).2⟩
     rcases (Uh HS).2 with e | e
     ·rw [e]; exact (Uh HA).1
     ·rw [e]; exact newAt_nil _
 ·have m1':MayL xs = false:=by simpa using m1
  rw [m1'] at K1
  have K1':=Hd K1
  have HC:=Hd (show powL xs k = ([],20) from by simp [powL,m1'])
  clear K1 m1 m1' h ox
  go_enter Tryz.func51,Tryz.ntmps51
  go_wp2_with fail
  refine (Uh K1').mono ?_
  rintro e w' ⟨rfl,hw⟩
  obtain rfl:=hw.symm
  go_wp2
  go_ret2
  rw [Uh HC]
  exact ⟨none,0,0,rfl,sl_nil _,newAt_nil _,Below.refl _ _⟩
theorem ten_may {n:Nat} (hn:n ≤ 1024):MayL (limbs (10 ^ n)) = true:=MayL.mk (limbs_norm _) (by have:=ten_len (Nat.le_refl (10 ^ n)); omega)
theorem ten_fit {n:Nat} (hn:n ≤ 1024):fitL (10 ^ n) = (limbs (10 ^ n),0):=fit_lt (ten_lt (Nat.le_refl _)) (by omega)
theorem pow_ten {k:Int} {n:Nat} (hk:k = (n:Int)) (hn:n ≤ 1024):powL (limbs 10) k = (limbs (10 ^ n),0):=by
 subst hk
 unfold powL
 rw [if_pos (by decide),if_neg (by omega),limbs_v,Int.toNat_natCast,ten_fit hn]
theorem pow_none {V:Nat} (hm:MayL (limbs V) = true):powL (limbs V) 0 = (limbs 1,0):=by
 unfold powL
 rw [if_pos hm,if_neg (by omega),show (0:Int).toNat = 0 from rfl,Nat.pow_zero]
 exact ten_fit (n:=0) (by omega)

set_option maxRecDepth 100000 in
set_option maxHeartbeats 8000000 in
theorem tenTo_any (k:Nat) (hk:k ≤ 1000) (w:World) :
  Calls Tryz.prog 76 #[.int .i64 (k:Nat)] w fun e w' => Res2 w w' (limbs (10 ^ k),0) e:=by
 obtain ⟨E,hE⟩:∃ E:Nat,E = 1024:=⟨_,rfl⟩
 have K0:=Hd (from_any 10 w (by decide))
 have e1:(k:Int).tdiv 1024 = 0:=by rw [show (k:Int).tdiv 1024 = ((k / 1024:Nat):Int) from rfl]; omega
 have e2:(k:Int) / 1024 = 0:=by omega
 have e3:(k:Int).tmod 1024 = (k:Int):=by rw [show (k:Int).tmod 1024 = ((k % 1024:Nat):Int) from rfl]; omega
 have e4:(k:Int) % 1024 = (k:Int):=by omega
 go_enter Tryz.func76,Tryz.ntmps76
 go_wp2_with fail
 refine (Uh K0).mono ?_
 rintro _ w1 ⟨a1,m1,y1,rfl,s1,r1,n1,b1⟩
 rw [r1.eq] at s1
 have K1:=npow_any a1 m1 m1 (limbs 10) 1024 w1 s1 (limbs_ok 10)
 rw [pow_ten (n:=E) (by omega) (by omega)] at K1
 have K1':=Hd K1
 have H1:=Hd (And.intro s1 b1)
 clear s1 r1 n1 b1 K0 K1
 go_wp2_with fail
 refine (Uh K1').mono ?_
 rintro _ w2 ⟨a2,m2,c2,rfl,s2,n2,b2⟩
 have K2:=npow_any a2 m2 c2 (limbs (10 ^ E)) 0 w2 s2 (limbs_ok _)
 rw [pow_none (ten_may (by omega))] at K2
 have K2':=Hd K2
 have H2:=Hd (And.intro ((Uh H1).1.below b2) ((Uh H1).2.trans (b2.mono (Uh H1).2.size)))
 clear s2 n2 b2 K1' K2 H1
 go_wp2_with fail
 refine (sure_any _ _ _).mono ?_
 rintro _ w3 ⟨rfl,hw⟩
 obtain rfl:=hw.symm
 clear hw
 go_wp2_with fail
 refine (Uh K2').mono ?_
 rintro _ w4 ⟨a4,m4,c4,rfl,s4,n4,b4⟩
 have K3:=npow_any a1 m1 m1 (limbs 10) (k:Nat) w4 ((Uh H2).1.below b4) (limbs_ok 10)
 rw [pow_ten (n:=k) rfl (by omega)] at K3
 have K3':=Hd K3
 have H4:=Hd (And.intro s4 ((Uh H2).2.trans (b4.mono (Uh H2).2.size)))
 clear s4 n4 b4 K2' K3 H2
 go_wp2_with fail
 refine (Uh K3').mono ?_
 rintro _ w5 ⟨a5,m5,c5,rfl,s5,n5,b5⟩
 have hB5:=(Uh H4).2.trans (b5.mono (Uh H4).2.size)
 have K5:=nmul_any a4 a5 m4 c4 m5 c5 (limbs 1) (limbs (10 ^ k)) w5 ((Uh H4).1.below b5) s5 (limbs_ok _) (limbs_ok _)
 have hmul:mulL (limbs 1) (limbs (10 ^ k)) = (limbs (10 ^ k),0):=by
  unfold mulL
  rw [show MayL (limbs 1) = true from by decide,ten_may (by omega),Bool.true_and,if_pos rfl,limbs_v,limbs_v,Nat.one_mul,ten_fit (by omega)]
 rw [hmul] at K5
 have K5':=Hd K5
 have H5:=Hd hB5
 clear s5 n5 b5 hB5 K5 K3' H4 hmul
 go_wp2_with fail
 refine (sure_any _ _ _).mono ?_
 rintro _ w6 ⟨rfl,hw⟩
 obtain rfl:=hw.symm
 clear hw
 go_wp2_with fail
 refine (Uh K5').mono ?_
 rintro _ w7 ⟨a7,m7,c7,rfl,s7,n7,b7⟩
 have H7:=Hd (And.intro s7 (And.intro n7 b7))
 clear s7 n7 b7 K5'
 go_wp2_with fail
 go_ret2
 exact ⟨a7,m7,c7,rfl,(Uh H7).1,fun x hx => Nat.le_trans (Uh H5).size ((Uh H7).2.1 x hx),(Uh H5).trans ((Uh H7).2.2.mono (Uh H5).size)⟩
theorem cat_nil (D:ByteArray):D ++ (⟨#[]⟩:ByteArray) = D:=by
 apply ByteArray.ext
 simp
set_option maxRecDepth 100000 in
set_option maxHeartbeats 8000000 in
theorem trimLeft_nil (w:World):Calls Tryz.prog 74 #[.string ⟨#[]⟩,.string ⟨#[43,45]⟩] w fun e w' => e = .returned (.string ⟨#[]⟩) ∧ w' = w:=by
 go_enter Tryz.func74,Tryz.ntmps74
 go_wp2_with fail
 go_ret
 exact ⟨rfl,rfl⟩
set_option maxRecDepth 100000 in
set_option maxHeartbeats 8000000 in
theorem readPower_nil (w:World):Calls Tryz.prog 33 #[.string ⟨#[]⟩] w fun e w' => e = .returned (.tuple #[.int .i64 0,.bool true]) ∧ Below w.heap.size w w':=by
 have HP:=Hd (hasPrefix_any ⟨#[]⟩ false w rfl)
 have hconv:=run_bytes_of_string (P:=Tryz.prog) w 9 108 5 ⟨#[]⟩ Tryz.underlying9 Tryz.underlying108 Tryz.underlying5
 obtain ⟨wc,hwc⟩:∃ x,w.drew.alloc (.cells (bytesRow ⟨#[]⟩ (grownCap w (ByteArray.mk #[]).size 0 5)) 5 ((bytesRow ⟨#[]⟩ (grownCap w (ByteArray.mk #[]).size 0 5)).size,(bytesRow ⟨#[]⟩ (grownCap w (ByteArray.mk #[]).size 0 5)).size + 1)) = x:=⟨_,rfl⟩
 rw [hwc] at hconv
 have hbc:Below w.heap.size w wc:=by rw [← hwc]; exact (Below.refl _ _).drew.alloc (by simp) _
 have HBc:=Hd hbc
 obtain ⟨cp,hcp⟩:∃ c,grownCap w (ByteArray.mk #[]).size 0 5 = c:=⟨_,rfl⟩
 rw [hcp] at hconv
 clear hbc hwc hcp
 go_enter Tryz.func33,Tryz.ntmps33
 go_wp2_with fail
 refine (Uh HP).mono ?_
 rintro _ _ ⟨rfl,hw⟩
 obtain rfl:=hw.symm
 clear hw
 go_wp2_with fail
 refine (trimLeft_nil _).mono ?_
 rintro _ _ ⟨rfl,hw⟩
 obtain rfl:=hw.symm
 clear hw
 go_wp2_with fail
 go_loopw [5,14] (fun nv cv wr => nv = .int .i64 0 ∧ cv = .int .i64 0 ∧ Hid (Below w.heap.size w wr)) (fun _ _ _ => 0)
 case atStart => exact ⟨rfl,rfl,Uh HBc⟩
 case round =>
  obtain ⟨rfl,rfl,HB⟩:=hrel
  go_wp2_with fail
  go_ret2
  exact ⟨rfl,Uh HB⟩
set_option maxRecDepth 100000 in
set_option maxHeartbeats 16000000 in
theorem written_frac (NG:Bool) (D U:ByteArray) (SL:Nat) (x y:List Nat) (w:World) (ox:Ok x) (kx:MayL x = true) (hD:PaIs D 10 x 0 0) (h0:0 < SL) (hU:PaIs U 10 y 0 0) :
  Calls Tryz.prog 34 #[.agg #[.bool NG,.string D,.int .i64 (SL:Nat),.string U,.string ⟨#[]⟩,.int .i64 0,.string ⟨#[]⟩],.int .i64 0] w fun e w' => ∃ a1 n1 c1 a2 n2 c2,e = .returned (.tuple #[.slice a1 n1 c1,.slice a2 n2 c2,.int .i64 0]) ∧ Sl w' a1 n1 c1 x ∧ Sl w' a2 n2 c2 y ∧ Below w.heap.size w w':=by
 obtain ⟨wa,hwa⟩:∃ z,w.alloc (.cells #[.bool NG,.string D,.int .i64 (SL:Nat),.string U,.string ⟨#[]⟩,.int .i64 0,.string ⟨#[]⟩] 64) = z:=⟨_,rfl⟩
 have ba:Below w.heap.size w wa:=by rw [← hwa]; exact bAl
 have sp:=Sv.made w (.bool NG) (.string D) (.int .i64 (SL:Nat)) (.string U) (.string ⟨#[]⟩) (.int .i64 0) (.string ⟨#[]⟩) 64
 rw [hwa] at sp
 have e1:=sp.c1
 have e2:=sp.c2
 have e3:=sp.c3
 have e4:=sp.c4
 have SP:=Hd sp
 have HB:=Hd ba
 have hDs:(D.size:Int) ≤ 65536:=by cases hD with | read zs e h h0 hb hi hr => omega
 have hcat:D ++ (⟨#[]⟩:ByteArray) = D:=cat_nil D
 have HK:=Hd (fun (W:World) => nparse_any D 10 W)
 have HD:=Hd hD
 have tz:(0:Int) < (SL:Int):=by omega
 have HU:=Hd hU
 clear sp ba hD h0 hU
 go_enter Tryz.func34,Tryz.ntmps34
 go_wp2_with fail
 try rw [hcat]
 clear hcat
 refine (Uh HK _).mono ?_
 rintro _ w1 ⟨a1,n1,c1,zs,pp,er,rfl,s1,b1,hp⟩
 obtain ⟨hx,rfl,rfl⟩:=PaIs.uniq (Uh HD) hp
 subst hx
 have sp1:=(Uh SP).keep b1
 have f2:=sp1.c2
 have f3:=sp1.c3
 have f4:=sp1.c4
 have S1:=Hd (And.intro s1 (And.intro b1 sp1))
 clear s1 b1 hp sp1 e1 e2 e3 e4
 have HK2:=Hd (fun (W:World) => nparse_any U 10 W)
 go_wp2_with fail
 refine (Uh HK2 _).mono ?_
 rintro _ w2 ⟨a2,n2,c2,zs2,pp2,er2,rfl,s2,b2,hp2⟩
 obtain ⟨hx2,rfl,rfl⟩:=PaIs.uniq (Uh HU) hp2
 subst hx2
 have S2:=Hd (And.intro s2 b2)
 clear s2 b2 hp2
 go_wp2_with fail
 go_ret3
 exact ⟨a1,n1,c1,a2,n2,c2,rfl,(Uh S1).1.below (Uh S2).2,(Uh S2).1,((Uh HB).trans ((Uh S1).2.1.mono (Uh HB).size)).trans ((Uh S2).2.mono (Nat.le_trans (Uh HB).size (Uh S1).2.1.size))⟩
set_option maxRecDepth 100000 in
set_option maxHeartbeats 16000000 in
theorem written_whole (NG:Bool) (D U:ByteArray) (SL:Nat) (x:List Nat) (w:World) (ox:Ok x) (kx:MayL x = true) (hD:PaIs D 10 x 0 0) (h0:SL = 0) :
  Calls Tryz.prog 34 #[.agg #[.bool NG,.string D,.int .i64 (SL:Nat),.string U,.string ⟨#[]⟩,.int .i64 0,.string ⟨#[]⟩],.int .i64 0] w fun e w' => ∃ a1 n1 c1 a2 n2 c2,e = .returned (.tuple #[.slice a1 n1 c1,.slice a2 n2 c2,.int .i64 0]) ∧ Sl w' a1 n1 c1 x ∧ Sl w' a2 n2 c2 [1] ∧ Below w.heap.size w w':=by
 obtain ⟨wa,hwa⟩:∃ z,w.alloc (.cells #[.bool NG,.string D,.int .i64 (SL:Nat),.string U,.string ⟨#[]⟩,.int .i64 0,.string ⟨#[]⟩] 64) = z:=⟨_,rfl⟩
 have ba:Below w.heap.size w wa:=by rw [← hwa]; exact bAl
 have sp:=Sv.made w (.bool NG) (.string D) (.int .i64 (SL:Nat)) (.string U) (.string ⟨#[]⟩) (.int .i64 0) (.string ⟨#[]⟩) 64
 rw [hwa] at sp
 have e1:=sp.c1
 have e2:=sp.c2
 have e3:=sp.c3
 have e4:=sp.c4
 have SP:=Hd sp
 have HB:=Hd ba
 have hDs:(D.size:Int) ≤ 65536:=by cases hD with | read zs e h h0 hb hi hr => omega
 have hcat:D ++ (⟨#[]⟩:ByteArray) = D:=cat_nil D
 have HK:=Hd (fun (W:World) => nparse_any D 10 W)
 have HD:=Hd hD
 have tz:¬ (0:Int) < (SL:Int):=by omega
 clear sp ba hD h0
 go_enter Tryz.func34,Tryz.ntmps34
 go_wp2_with fail
 try rw [hcat]
 clear hcat
 refine (Uh HK _).mono ?_
 rintro _ w1 ⟨a1,n1,c1,zs,pp,er,rfl,s1,b1,hp⟩
 obtain ⟨hx,rfl,rfl⟩:=PaIs.uniq (Uh HD) hp
 subst hx
 have sp1:=(Uh SP).keep b1
 have f2:=sp1.c2
 have f3:=sp1.c3
 have f4:=sp1.c4
 have S1:=Hd (And.intro s1 (And.intro b1 sp1))
 clear s1 b1 hp sp1 e1 e2 e3 e4
 have KT:=tenTo_any 0 (by decide) w1
 have HKT:=Hd KT
 clear KT
 go_wp2_with fail
 refine (Uh HKT).mono ?_
 rintro _ w2 ⟨a2,n2,c2,rfl,s2,_,b2⟩
 dsimp only at s2
 have S2:=Hd (And.intro s2 b2)
 clear s2 b2
 go_wp2_with fail
 refine (sure_any _ _ _).mono ?_
 rintro _ _ ⟨rfl,hw⟩
 obtain rfl:=hw.symm
 clear hw
 have KM:=nmul_any a1 a2 n1 c1 n2 c2 x (limbs (10 ^ 0)) w2 ((Uh S1).1.below (Uh S2).2) (Uh S2).1 ox (limbs_rep _).ok
 have hM:mulL x (limbs (10 ^ 0)) = (x,0):=by
  unfold mulL
  rw [kx,show MayL (limbs (10 ^ 0)) = true from by decide,(limbs_rep (10 ^ 0)).val,Nat.pow_zero,Nat.mul_one]
  simp only [Bool.and_self,if_true]
  unfold fitL
  rw [limbs_val ox (MayL.norm kx),if_neg (by have:=MayL.len kx; omega)]
 rw [hM] at KM
 have HKM:=Hd KM
 clear KM hM
 go_wp2_with fail
 refine (Uh HKM).mono ?_
 rintro _ w3 ⟨a3,n3,c3,rfl,s3,_,b3⟩
 dsimp only at s3
 have hb3:=(Uh S2).2.trans (b3.mono (Uh S2).2.size)
 have S3:=Hd (And.intro s3 hb3)
 clear s3 b3 hb3
 go_wp2_with fail
 refine (ratOne_any _).mono ?_
 rintro _ w4 ⟨a4,n4,rfl,s4,_,b4⟩
 have S4:=Hd (And.intro s4 b4)
 clear s4 b4
 go_wp2_with fail
 go_ret3
 have hz:=(Uh S1).2.1.trans ((Uh S3).2.mono (Uh S1).2.1.size)
 have hz2:=hz.trans ((Uh S4).2.mono hz.size)
 exact ⟨a3,n3,c3,a4,n4,n4,rfl,(Uh S3).1.below (Uh S4).2,(Uh S4).1,(Uh HB).trans (hz2.mono (Uh HB).size)⟩
theorem strB_size (bs:List Nat):(strB bs).size = bs.length:=by unfold strB; rw [strOfNums_size]; simp
theorem strB_get {bs:List Nat} {p:Nat} (hp:p < bs.length) (h:bs.getD p 0 < 256):((strB bs).get! p).toNat = bs.getD p 0:=by
 have e:(strB bs).get! p = UInt8.ofNat (bs.getD p 0):=by
  show (strB bs).data[p]! = _
  unfold strB strOfNums
  simp [hp,List.getD]
 rw [e]
 simp only [UInt8.toNat_ofNat']
 omega
theorem digitN_chrN {d:Nat} (h:d < 36):digitN (chrN d) = d:=by
 unfold chrN digitN
 by_cases h9:d < 10
 ·rw [if_pos h9,if_pos (by omega)]; omega
 ·rw [if_neg h9,if_neg (by omega),if_pos (by omega)]; omega

theorem dig_txt {V b n p:Nat} (hb:2 ≤ b) (hb2:b ≤ 36) (hp:p < n):dig (strB (txtL V b n)) p = dgt V b (n - 1 - p):=by
 have hl:(txtL V b n).length = n:=lst_len _ _
 have hg:(txtL V b n).getD p 0 = chrN (dgt V b (n - 1 - p)):=lst_getD _ _ _ hp
 unfold dig
 rw [strB_get (by rw [hl]; exact hp) (by rw [hg]; exact chr_ok V hb hb2 _),hg]
 exact digitN_chrN (by have:=dgt_lt V (n - 1 - p) (b:=b) (by omega); omega)

theorem num_txt {V b n:Nat} (hb:2 ≤ b) (hb2:b ≤ 36) (hV:V < b ^ n):numP (strB (txtL V b n)) b n = V:=by
 have h:∀ k,k ≤ n → numS (strB (txtL V b n)) b 0 k = V / b ^ (n - k):=by
  intro k
  induction k with
  | zero => intro _; simp only [numS,Nat.sub_zero]; rw [Nat.div_eq_of_lt hV]
  | succ k ih =>
   intro hk
   simp only [numS]
   rw [ih (by omega),Nat.zero_add,dig_txt hb hb2 (by omega)]
   unfold dgt
   rw [show n - k = (n - 1 - k) + 1 from by omega,Nat.pow_succ,← Nat.div_div_eq_div_mul,show n - (k + 1) = n - 1 - k from by omega,Nat.mul_comm,Nat.div_add_mod]
 have:=h n (Nat.le_refl _)
 rw [Nat.sub_self,Nat.pow_zero,Nat.div_one] at this
 exact this

theorem txt_len3 {V b n l:Nat} (hb:2 ≤ b) (h:TxtOf V b n) (hV:V < 2 ^ (32 * l)) (hl:1 ≤ l):n ≤ 32 * l:=by
 rcases h.ge with e | e
 ·omega
 ·have h3:2 ^ (n - 1) ≤ b ^ (n - 1):=Nat.pow_le_pow_left hb _
  have h4:2 ^ (n - 1) < 2 ^ (32 * l):=by omega
  have:=(Nat.pow_lt_pow_iff_right (by decide:1 < 2)).1 h4
  omega

theorem back_txt {xs:List Nat} {b n:Nat} (hb:2 ≤ b) (hb2:b ≤ 36) (ox:Ok xs) (m:MayL xs = true) (h:TxtOf (val xs) b n):PaIs (strB (txtL (val xs) b n)) (b:Nat) xs 0 0:=by
 have hl:(strB (txtL (val xs) b n)).size = n:=by rw [strB_size]; exact lst_len _ _
 have hm:=MayL.len m
 obtain ⟨l,hl1⟩:∃ l,l = max xs.length 1:=⟨_,rfl⟩
 have hV:val xs < 2 ^ (32 * l):=by
  have h1:=val_lt ox
  rw [pow_limb] at h1
  exact Nat.lt_of_lt_of_le h1 (Nat.pow_le_pow_right (by decide) (by omega))
 have hn:=txt_len3 hb h hV (by omega)
 have hp:=h.pos
 refine PaIs.read xs 0 (by omega) (by omega) (by omega) (fun j hj => ?_) ?_
 ·rw [Int.toNat_natCast,dig_txt hb hb2 (by omega)]
  exact dgt_lt _ _ (by omega)
 ·rw [Int.toNat_natCast,hl,num_txt hb hb2 h.lt,fitL_ok (by rw [limbs_val ox (MayL.norm m)]; omega),limbs_val ox (MayL.norm m)]
theorem lastS_none {s:ByteArray} {v:Nat}:∀ {N:Nat},(∀ j,j < N → stS s (j + 1) ≠ v) → lastS s v N = 0
 | 0,_ => rfl
 | N + 1,h => by
  unfold lastS
  rw [if_neg (h N (Nat.lt_succ_self N))]
  exact lastS_none fun j hj => h j (by omega)
theorem lastS_at {s:ByteArray} {v p:Nat}:∀ {N:Nat},p < N → stS s (p + 1) = v → (∀ j,p < j → j < N → stS s (j + 1) ≠ v) → lastS s v N = p
 | 0,h,_,_ => by omega
 | N + 1,h,hp,hn => by
  unfold lastS
  by_cases e:p = N
  ·subst e
   rw [if_pos hp]
  ·rw [if_neg (hn N (by omega) (by omega))]
   exact lastS_at (by omega) hp fun j h1 h2 => hn j h1 (by omega)
theorem hasS_none {s:ByteArray} {v:Nat}:∀ {N:Nat},(∀ j,j < N → stS s (j + 1) ≠ v) → hasS s v N = false
 | 0,_ => rfl
 | N + 1,h => by
  unfold hasS
  rw [if_neg (h N (Nat.lt_succ_self N))]
  exact hasS_none fun j hj => h j (by omega)
theorem hasS_some {s:ByteArray} {v p:Nat}:∀ {N:Nat},p < N → stS s (p + 1) = v → hasS s v N = true
 | 0,h,_ => by omega
 | N + 1,h,hp => by
  unfold hasS
  by_cases e:stS s (N + 1) = v
  ·rw [if_pos e]
  ·rw [if_neg e]
   refine hasS_some (p:=p) ?_ hp
   rcases Nat.lt_or_eq_of_le (Nat.le_of_lt_succ h) with k | k
   ·exact k
   ·rw [k] at hp; exact absurd hp e
theorem st_run {s:ByteArray} {i b:Nat} (h1:nxS (stS s i) 1 = b) (h2:nxS b 1 = b):∀ {k:Nat},(∀ j,j < k → kdA s (i + j) = 1) → ∀ j,j < k → stS s (i + j + 1) = b
 | k,hk,0,h => by
  show nxS (stS s (i + 0)) (kdA s (i + 0)) = b
  rw [hk 0 h]
  exact h1
 | k,hk,j + 1,h => by
  have ih:=st_run h1 h2 hk j (by omega)
  show nxS (stS s (i + (j + 1))) (kdA s (i + (j + 1))) = b
  rw [hk (j + 1) h,show i + (j + 1) = i + j + 1 by omega,ih]
  exact h2
theorem kd_digit {c:Nat} (h1:48 ≤ c) (h2:c ≤ 57):kdN c = 1:=by unfold kdN; rw [if_pos ⟨h1,h2⟩]
end Go.Proofs.YtpbcnkcnjnefiaaGreatDoor
