/- Rxb -/
import Derived.Test.YtncolonhdjkglaaGreatDoorRx2
import Derived.Test.YtncolonhdjkglaaGreatDoorWra
import Derived.Test.YtncolonhdjkglaaGreatDoorWik
import Derived.Test.YtncolonhdjkglaaGreatDoorWs4
import Derived.Deep.LoopGhost
import Derived.Deep.RegionHeld3
namespace Go.Proofs.YtncolonhdjkglaaGreatDoor
open Go.RowKit Go.Deep
set_option linter.unusedVariables false
set_option maxRecDepth 100000 in
set_option maxHeartbeats 16000000 in
theorem wdec_zF (a b:Option Addr) (n c m d:Nat) (x y:List Nat) (k:Nat) (w:World) (hx:Sl w a n c x) (hy:Sl w b m d y) (ox:Ok x) (oy:Ok y) (nx:a = none → c = 0) (hm:MayR false x y = true) (hk:k ≤ 1000) (hz:k = 0) :
  Calls Tryz.prog 11 #[ratV false a n c b m d,.int .i64 (k:Nat)] w fun e w' => DcPost false x y (k:Nat) w e w':=by
 have bx:=Box.made w false a n c b m d
 obtain ⟨wa,hwa⟩:∃ wa,ratBox w false a n c b m d = wa:=⟨_,rfl⟩
 rw [hwa] at bx
 unfold ratBox at hwa
 have hba:=bx.bel
 have p0:=bx.d0
 have p1:=bx.d1
 have p2:=bx.d2
 obtain ⟨kx,ky,ey,_,_⟩:=MayR.parts hm
 have vy:=val_pos_of_may ky ey
 have hn:n ≤ 2048:=by have:=MayL.len kx; have:=hx.len; omega
 have hm2:m ≤ 2048:=by have:=MayL.len ky; have:=hy.len; omega
 have KM:=wmay_any false a b n c m d x y wa (hx.below hba) (hy.below hba) ox oy
 rw [hm] at KM
 unfold ratV at KM ⊢
 have HKM:=Hd KM
 have hU:=ten_len (Nat.le_refl (10 ^ k))
 obtain ⟨N,hN⟩:∃ N,rdQ (val x * 10 ^ k) (val y) = N:=⟨_,rfl⟩
 have hNle:N ≤ val x * 10 ^ k:=by rw [← hN]; exact rdQ_le vy
 have hPl:val x * 10 ^ k < 4294967296 ^ (n + (k + 1)):=by
  rw [Nat.pow_add]
  have h1:=val_lt ox
  rw [hx.len] at h1
  exact Nat.mul_lt_mul'' h1 (ten_lt (Nat.le_refl _))
 have lP:=limbs_len hPl
 have lN:=limbs_len (Nat.lt_of_le_of_lt hNle hPl)
 have hN32:N < 2 ^ (32 * (n + (k + 1))):=by rw [← pow_limb]; exact Nat.lt_of_le_of_lt hNle hPl
 have HXY:=Hd (And.intro (hx.below hba) (And.intro (hy.below hba) (And.intro (MayL.norm ky) ey)))
 have HM:=Hd hm
 have HBa:=Hd hba
 have HN:=Hd hN
 have HZ:=Hd hz
 have tk1:¬ (k:Int) < 0:=by omega
 have tk2:¬ (1000:Int) < (k:Int):=by omega
 have tk3:decide ((k:Int) < 0) = false:=decide_eq_false tk1
 have tk4:decide ((1000:Int) < (k:Int)) = false:=decide_eq_false tk2
 have tz:¬ (0:Int) < (k:Int):=by omega
 clear KM hx hy bx hba hm kx ky ey vy hNle hPl hN hz
 go_enter Tryz.func11,Tryz.ntmps11
 go_wp2_with fail
 refine (Uh HKM).mono ?_
 rintro _ w1 ⟨rfl,b1⟩
 have f0:=(ck b1 p0); have f1:=(ck b1 p1); have f2:=(ck b1 p2)
 have HB1:=Hd ((Below.refl wa.heap.size wa).trans b1)
 clear b1 HKM p0 p1 p2
 have HKT:=Hd (wten_any k (by omega) w1.drew)
 go_wp2_with fail
 go_region_held3 (fun w' => w'.cell? ⟨w.heap.size,0,none⟩ = some (.bool false) ∧ w'.cell? ⟨w.heap.size,1,none⟩ = some (.slice a n c) ∧ w'.cell? ⟨w.heap.size,2,none⟩ = some (.slice b m d)) (first | go_keep | (exact ⟨k0,k1,k2⟩) | (exact ⟨j0,j1,j2⟩) | (exact ⟨i0,i1,i2⟩))
  (first
   | (go_at_call 35; refine (Uh HKT).mono ?_; rintro _ w2 ⟨au,mu,cu,rfl,su,nu,zu,b2⟩; have hb2:Below w1.heap.size w1 w2:=(Below.refl _ _).drew.trans b2; have k0:=(ck hb2 f0); have k1:=(ck hb2 f1); have k2:=(ck hb2 f2); have HB2:=Hd ((Uh HB1).trans (hb2.mono (Uh HB1).size)); have S2:=Hd su; clear su nu zu b2 hb2)
   | (go_at_call 34; refine (wmulw_any a au n c mu cu x (limbs (10 ^ k)) w2 ((Uh HXY).1.below (Uh HB2)) (Uh S2) ox (limbs_ok _) (by have:=(Uh S2).len; omega)).mono ?_; rintro _ w3 ⟨ap,mp,cp,rfl,sp,np,zp,b3⟩; rw [limbs_v] at sp; have j0:=(ck b3 k0); have j1:=(ck b3 k1); have j2:=(ck b3 k2); have HB3:=Hd ((Uh HB2).trans (b3.mono (Uh HB2).size)); have S3:=Hd (And.intro sp zp); clear sp np zp b3)
   | (go_at_call 33; have KR:=wnearest_any ap b mp cp m d (limbs (val x * 10 ^ k)) y w3 (Uh S3).1 (Uh S3).2 ((Uh HXY).2.1.below (Uh HB3)) (limbs_ok _) oy (limbs_norm _) (Uh HXY).2.2.1 (Uh HXY).2.2.2 (by have:=(Uh S3).1.len; omega) (by omega); rw [limbs_v,Uh HN] at KR; refine KR.mono ?_; clear KR; rintro _ w4 ⟨an,mn,cn,rfl,sn,nn,zn,b4⟩; have i0:=(ck b4 j0); have i1:=(ck b4 j1); have i2:=(ck b4 j2); have HB4:=Hd ((Uh HB3).trans (b4.mono (Uh HB3).size)); have S4:=Hd sn; clear sn nn zn b4))
 clear HKT S2 S3 HB1 HB2 HB3 f0 f1 f2 k0 k1 k2 j0 j1 j2
 have hmn:(0 < mn ↔ N ≠ 0):=by
  have h4:=(Uh S4).len
  constructor
  ·intro e g
   rw [g,limbs_zero] at h4; simp at h4; omega
  ·intro e
   rcases Nat.eq_zero_or_pos mn with g | g
   ·rw [g] at h4; exact absurd (limbs_eq_nil.1 (List.eq_nil_of_length_eq_zero h4)) e
   ·exact g
 clear hmn
 have HKD:=Hd (wdigits_any an mn cn N w4 (Uh S4) (by have:=(Uh S4).len; omega))
 try go_wp2_with fail
 refine (Uh HKD).mono ?_
 rintro _ w5 ⟨L,hT,rfl,b5⟩
 have h0:=(ck b5 i0); have h1:=(ck b5 i1); have h2:=(ck b5 i2)
 have HB5:=Hd ((Uh HBa).trans (((Uh HB4).trans (b5.mono (Uh HB4).size)).mono (Uh HBa).size))
 have hL1:=hT.pos
 have hLt:=hT.lt
 have hLn:L ≤ 32 * (n + (k + 1)) + 1:=by
  rcases hT.ge with e | e
  ·omega
  ·have h3:2 ^ (L - 1) ≤ 10 ^ (L - 1):=Nat.pow_le_pow_left (by decide) _
   have:=(Nat.pow_lt_pow_iff_right (by decide:1 < 2)).1 (show 2 ^ (L - 1) < 2 ^ (32 * (n + (k + 1))) by omega)
   omega
 have HT:=Hd (And.intro hT hLt)
 clear hT hLt b5 HKD HB4 S4 i0 i1 i2 hN32 lN lP hU
 go_wp2_with fail
 go_loopg [7] (k + 2) (fun gq sv wr => ∃ j:Nat,L ≤ j ∧ j ≤ max L (k + 1) ∧ k + 2 - j ≤ gq ∧ sv = .string (strB (txtL N 10 j)) ∧ wr = w5)
 case atStart => exact ⟨L,Nat.le_refl _,by omega,by omega,rfl,rfl⟩
 case round =>
  obtain ⟨j,hj1,hj2,hgq,rfl,hw⟩:=hrel
  obtain rfl:=hw.symm
  clear hw
  have hsz:(strB (txtL N 10 j)).size = j:=by rw [strB_len,txtL_len]
  by_cases hjk:j ≤ k
  ·have tj:(j:Int) ≤ (k:Int):=by omega
   exfalso
   have:=Uh HZ
   omega
  ·have tj:¬ (j:Int) ≤ (k:Int):=by omega
   have hjM:j = max L (k + 1):=by omega
   have HTu:=Hd ((Uh HT).1.up (k:=k) hjM)
   have hjk2:(j:Int) - (k:Int) = ((j - k:Nat):Int):=by omega
   have hspl:txtL N 10 j = txtL (N / 10 ^ k) 10 (j - k) ++ txtL (N % 10 ^ k) 10 k:=by rw [← txtL_split]; congr 1; omega
   have hsp1:(strB (txtL N 10 j)).extract 0 (j - k) = strB (txtL (N / 10 ^ k) 10 (j - k)):=by rw [hspl]; exact strB_front _ _ (txtL_len _ _ _)
   have hsp2:(strB (txtL N 10 j)).extract (j - k) j = strB (txtL (N % 10 ^ k) 10 k):=by rw [hspl]; exact strB_back _ _ (txtL_len _ _ _) (by rw [txtL_len]; omega)
   have hs1:(strB (txtL (N / 10 ^ k) 10 (j - k))).size = j - k:=by rw [strB_len,txtL_len]
   have hs2:(strB (txtL (N % 10 ^ k) 10 k)).size = k:=by rw [strB_len,txtL_len]
   have HSZ:=Hd (show strB (txtL N 10 j) = strB (txtL (N / 10 ^ k) 10 (j - k)) by rw [Uh HZ]; simp)
   have HD:=Hd (And.intro hs1 hs2)
   have HX:=Hd (fun (t:ByteArray) (ht:t = mnB false ++ (strB (txtL (N / 10 ^ k) 10 (j - k)) ++ dotB N k)) => (show DcR false x y (k:Nat) t 0 by rw [ht]; have:=DcR.text (g:=false) (x:=x) (y:=y) (pl:=(k:Nat)) k (j - k) N (Uh HM) rfl hk (Uh HN).symm (Uh HTu); rw [show (false && decide (N ≠ 0)) = false by rfl] at this; exact this))
   rw [dotB_zero _ (Uh HZ)] at HX
   generalize strB (txtL (N / 10 ^ k) 10 (j - k)) = S1 at *
   generalize strB (txtL (N % 10 ^ k) 10 k) = S2 at *
   generalize strB (txtL N 10 j) = SS at *
   have HSP:=Hd (And.intro hsp1 hsp2)
   clear hspl hjM
   go_wp2_with fail
   go_ret2
   refine ⟨_,_,rfl,Uh HX _ ?_,by first | exact Uh HB5 | exact bel_drewN (Uh HB5) _⟩
   rw [← Uh HSZ]
   show _ = (⟨#[]⟩:ByteArray) ++ (SS ++ ⟨#[]⟩)
   rw [show SS ++ (⟨#[]⟩:ByteArray) = SS from ByteArray.append_empty]
   try (first | rfl | exact (ByteArray.empty_append).symm)
set_option maxRecDepth 100000 in
set_option maxHeartbeats 16000000 in
theorem wdec_zZ (a b:Option Addr) (n c m d:Nat) (x y:List Nat) (k:Nat) (w:World) (hx:Sl w a n c x) (hy:Sl w b m d y) (ox:Ok x) (oy:Ok y) (nx:a = none → c = 0) (hm:MayR true x y = true) (hk:k ≤ 1000) (hz:k = 0) (hN0:rdQ (val x * 10 ^ k) (val y) = 0) :
  Calls Tryz.prog 11 #[ratV true a n c b m d,.int .i64 (k:Nat)] w fun e w' => DcPost true x y (k:Nat) w e w':=by
 have bx:=Box.made w true a n c b m d
 obtain ⟨wa,hwa⟩:∃ wa,ratBox w true a n c b m d = wa:=⟨_,rfl⟩
 rw [hwa] at bx
 unfold ratBox at hwa
 have hba:=bx.bel
 have p0:=bx.d0
 have p1:=bx.d1
 have p2:=bx.d2
 obtain ⟨kx,ky,ey,_,_⟩:=MayR.parts hm
 have vy:=val_pos_of_may ky ey
 have hn:n ≤ 2048:=by have:=MayL.len kx; have:=hx.len; omega
 have hm2:m ≤ 2048:=by have:=MayL.len ky; have:=hy.len; omega
 have KM:=wmay_any true a b n c m d x y wa (hx.below hba) (hy.below hba) ox oy
 rw [hm] at KM
 unfold ratV at KM ⊢
 have HKM:=Hd KM
 have hU:=ten_len (Nat.le_refl (10 ^ k))
 obtain ⟨N,hN⟩:∃ N,rdQ (val x * 10 ^ k) (val y) = N:=⟨_,rfl⟩
 have hNle:N ≤ val x * 10 ^ k:=by rw [← hN]; exact rdQ_le vy
 have hPl:val x * 10 ^ k < 4294967296 ^ (n + (k + 1)):=by
  rw [Nat.pow_add]
  have h1:=val_lt ox
  rw [hx.len] at h1
  exact Nat.mul_lt_mul'' h1 (ten_lt (Nat.le_refl _))
 have lP:=limbs_len hPl
 have lN:=limbs_len (Nat.lt_of_le_of_lt hNle hPl)
 have hN32:N < 2 ^ (32 * (n + (k + 1))):=by rw [← pow_limb]; exact Nat.lt_of_le_of_lt hNle hPl
 have HXY:=Hd (And.intro (hx.below hba) (And.intro (hy.below hba) (And.intro (MayL.norm ky) ey)))
 have HM:=Hd hm
 have HBa:=Hd hba
 have HN:=Hd hN
 have HZ:=Hd hz
 have tk1:¬ (k:Int) < 0:=by omega
 have tk2:¬ (1000:Int) < (k:Int):=by omega
 have tk3:decide ((k:Int) < 0) = false:=decide_eq_false tk1
 have tk4:decide ((1000:Int) < (k:Int)) = false:=decide_eq_false tk2
 rw [hN] at hN0
 have HN0:=Hd hN0
 clear hN0
 have tz:¬ (0:Int) < (k:Int):=by omega
 clear KM hx hy bx hba hm kx ky ey vy hNle hPl hN hz
 go_enter Tryz.func11,Tryz.ntmps11
 go_wp2_with fail
 refine (Uh HKM).mono ?_
 rintro _ w1 ⟨rfl,b1⟩
 have f0:=(ck b1 p0); have f1:=(ck b1 p1); have f2:=(ck b1 p2)
 have HB1:=Hd ((Below.refl wa.heap.size wa).trans b1)
 clear b1 HKM p0 p1 p2
 have HKT:=Hd (wten_any k (by omega) w1.drew)
 go_wp2_with fail
 go_region_held3 (fun w' => w'.cell? ⟨w.heap.size,0,none⟩ = some (.bool true) ∧ w'.cell? ⟨w.heap.size,1,none⟩ = some (.slice a n c) ∧ w'.cell? ⟨w.heap.size,2,none⟩ = some (.slice b m d)) (first | go_keep | (exact ⟨k0,k1,k2⟩) | (exact ⟨j0,j1,j2⟩) | (exact ⟨i0,i1,i2⟩))
  (first
   | (go_at_call 35; refine (Uh HKT).mono ?_; rintro _ w2 ⟨au,mu,cu,rfl,su,nu,zu,b2⟩; have hb2:Below w1.heap.size w1 w2:=(Below.refl _ _).drew.trans b2; have k0:=(ck hb2 f0); have k1:=(ck hb2 f1); have k2:=(ck hb2 f2); have HB2:=Hd ((Uh HB1).trans (hb2.mono (Uh HB1).size)); have S2:=Hd su; clear su nu zu b2 hb2)
   | (go_at_call 34; refine (wmulw_any a au n c mu cu x (limbs (10 ^ k)) w2 ((Uh HXY).1.below (Uh HB2)) (Uh S2) ox (limbs_ok _) (by have:=(Uh S2).len; omega)).mono ?_; rintro _ w3 ⟨ap,mp,cp,rfl,sp,np,zp,b3⟩; rw [limbs_v] at sp; have j0:=(ck b3 k0); have j1:=(ck b3 k1); have j2:=(ck b3 k2); have HB3:=Hd ((Uh HB2).trans (b3.mono (Uh HB2).size)); have S3:=Hd (And.intro sp zp); clear sp np zp b3)
   | (go_at_call 33; have KR:=wnearest_any ap b mp cp m d (limbs (val x * 10 ^ k)) y w3 (Uh S3).1 (Uh S3).2 ((Uh HXY).2.1.below (Uh HB3)) (limbs_ok _) oy (limbs_norm _) (Uh HXY).2.2.1 (Uh HXY).2.2.2 (by have:=(Uh S3).1.len; omega) (by omega); rw [limbs_v,Uh HN] at KR; refine KR.mono ?_; clear KR; rintro _ w4 ⟨an,mn,cn,rfl,sn,nn,zn,b4⟩; have i0:=(ck b4 j0); have i1:=(ck b4 j1); have i2:=(ck b4 j2); have HB4:=Hd ((Uh HB3).trans (b4.mono (Uh HB3).size)); have S4:=Hd sn; clear sn nn zn b4))
 clear HKT S2 S3 HB1 HB2 HB3 f0 f1 f2 k0 k1 k2 j0 j1 j2
 have hmn:(0 < mn ↔ N ≠ 0):=by
  have h4:=(Uh S4).len
  constructor
  ·intro e g
   rw [g,limbs_zero] at h4; simp at h4; omega
  ·intro e
   rcases Nat.eq_zero_or_pos mn with g | g
   ·rw [g] at h4; exact absurd (limbs_eq_nil.1 (List.eq_nil_of_length_eq_zero h4)) e
   ·exact g
 obtain rfl:mn = 0:=by have:=Uh HN0; omega
 clear hmn
 have HKD:=Hd (wdigits_any an 0 cn N w4 (Uh S4) (by have:=(Uh S4).len; omega))
 try go_wp2_with fail
 refine (Uh HKD).mono ?_
 rintro _ w5 ⟨L,hT,rfl,b5⟩
 have h0:=(ck b5 i0); have h1:=(ck b5 i1); have h2:=(ck b5 i2)
 have HB5:=Hd ((Uh HBa).trans (((Uh HB4).trans (b5.mono (Uh HB4).size)).mono (Uh HBa).size))
 have hL1:=hT.pos
 have hLt:=hT.lt
 have hLn:L ≤ 32 * (n + (k + 1)) + 1:=by
  rcases hT.ge with e | e
  ·omega
  ·have h3:2 ^ (L - 1) ≤ 10 ^ (L - 1):=Nat.pow_le_pow_left (by decide) _
   have:=(Nat.pow_lt_pow_iff_right (by decide:1 < 2)).1 (show 2 ^ (L - 1) < 2 ^ (32 * (n + (k + 1))) by omega)
   omega
 have HT:=Hd (And.intro hT hLt)
 clear hT hLt b5 HKD HB4 S4 i0 i1 i2 hN32 lN lP hU
 go_wp2_with fail
 go_loopg [7] (k + 2) (fun gq sv wr => ∃ j:Nat,L ≤ j ∧ j ≤ max L (k + 1) ∧ k + 2 - j ≤ gq ∧ sv = .string (strB (txtL N 10 j)) ∧ wr = w5)
 case atStart => exact ⟨L,Nat.le_refl _,by omega,by omega,rfl,rfl⟩
 case round =>
  obtain ⟨j,hj1,hj2,hgq,rfl,hw⟩:=hrel
  obtain rfl:=hw.symm
  clear hw
  have hsz:(strB (txtL N 10 j)).size = j:=by rw [strB_len,txtL_len]
  by_cases hjk:j ≤ k
  ·have tj:(j:Int) ≤ (k:Int):=by omega
   exfalso
   have:=Uh HZ
   omega
  ·have tj:¬ (j:Int) ≤ (k:Int):=by omega
   have hjM:j = max L (k + 1):=by omega
   have HTu:=Hd ((Uh HT).1.up (k:=k) hjM)
   have hjk2:(j:Int) - (k:Int) = ((j - k:Nat):Int):=by omega
   have hspl:txtL N 10 j = txtL (N / 10 ^ k) 10 (j - k) ++ txtL (N % 10 ^ k) 10 k:=by rw [← txtL_split]; congr 1; omega
   have hsp1:(strB (txtL N 10 j)).extract 0 (j - k) = strB (txtL (N / 10 ^ k) 10 (j - k)):=by rw [hspl]; exact strB_front _ _ (txtL_len _ _ _)
   have hsp2:(strB (txtL N 10 j)).extract (j - k) j = strB (txtL (N % 10 ^ k) 10 k):=by rw [hspl]; exact strB_back _ _ (txtL_len _ _ _) (by rw [txtL_len]; omega)
   have hs1:(strB (txtL (N / 10 ^ k) 10 (j - k))).size = j - k:=by rw [strB_len,txtL_len]
   have hs2:(strB (txtL (N % 10 ^ k) 10 k)).size = k:=by rw [strB_len,txtL_len]
   have HSZ:=Hd (show strB (txtL N 10 j) = strB (txtL (N / 10 ^ k) 10 (j - k)) by rw [Uh HZ]; simp)
   have HD:=Hd (And.intro hs1 hs2)
   have HX:=Hd (fun (t:ByteArray) (ht:t = mnB false ++ (strB (txtL (N / 10 ^ k) 10 (j - k)) ++ dotB N k)) => (show DcR true x y (k:Nat) t 0 by rw [ht]; have:=DcR.text (g:=true) (x:=x) (y:=y) (pl:=(k:Nat)) k (j - k) N (Uh HM) rfl hk (Uh HN).symm (Uh HTu); rw [show (true && decide (N ≠ 0)) = false by simp; exact Uh HN0] at this; exact this))
   rw [dotB_zero _ (Uh HZ)] at HX
   generalize strB (txtL (N / 10 ^ k) 10 (j - k)) = S1 at *
   generalize strB (txtL (N % 10 ^ k) 10 k) = S2 at *
   generalize strB (txtL N 10 j) = SS at *
   have HSP:=Hd (And.intro hsp1 hsp2)
   clear hspl hjM
   go_wp2_with fail
   go_ret2
   refine ⟨_,_,rfl,Uh HX _ ?_,by first | exact Uh HB5 | exact bel_drewN (Uh HB5) _⟩
   rw [← Uh HSZ]
   show _ = (⟨#[]⟩:ByteArray) ++ (SS ++ ⟨#[]⟩)
   rw [show SS ++ (⟨#[]⟩:ByteArray) = SS from ByteArray.append_empty]
   try (first | rfl | exact (ByteArray.empty_append).symm)
set_option maxRecDepth 100000 in
set_option maxHeartbeats 16000000 in
theorem wdec_zP (a b:Option Addr) (n c m d:Nat) (x y:List Nat) (k:Nat) (w:World) (hx:Sl w a n c x) (hy:Sl w b m d y) (ox:Ok x) (oy:Ok y) (nx:a = none → c = 0) (hm:MayR true x y = true) (hk:k ≤ 1000) (hz:k = 0) (hN0:rdQ (val x * 10 ^ k) (val y) ≠ 0) :
  Calls Tryz.prog 11 #[ratV true a n c b m d,.int .i64 (k:Nat)] w fun e w' => DcPost true x y (k:Nat) w e w':=by
 have bx:=Box.made w true a n c b m d
 obtain ⟨wa,hwa⟩:∃ wa,ratBox w true a n c b m d = wa:=⟨_,rfl⟩
 rw [hwa] at bx
 unfold ratBox at hwa
 have hba:=bx.bel
 have p0:=bx.d0
 have p1:=bx.d1
 have p2:=bx.d2
 obtain ⟨kx,ky,ey,_,_⟩:=MayR.parts hm
 have vy:=val_pos_of_may ky ey
 have hn:n ≤ 2048:=by have:=MayL.len kx; have:=hx.len; omega
 have hm2:m ≤ 2048:=by have:=MayL.len ky; have:=hy.len; omega
 have KM:=wmay_any true a b n c m d x y wa (hx.below hba) (hy.below hba) ox oy
 rw [hm] at KM
 unfold ratV at KM ⊢
 have HKM:=Hd KM
 have hU:=ten_len (Nat.le_refl (10 ^ k))
 obtain ⟨N,hN⟩:∃ N,rdQ (val x * 10 ^ k) (val y) = N:=⟨_,rfl⟩
 have hNle:N ≤ val x * 10 ^ k:=by rw [← hN]; exact rdQ_le vy
 have hPl:val x * 10 ^ k < 4294967296 ^ (n + (k + 1)):=by
  rw [Nat.pow_add]
  have h1:=val_lt ox
  rw [hx.len] at h1
  exact Nat.mul_lt_mul'' h1 (ten_lt (Nat.le_refl _))
 have lP:=limbs_len hPl
 have lN:=limbs_len (Nat.lt_of_le_of_lt hNle hPl)
 have hN32:N < 2 ^ (32 * (n + (k + 1))):=by rw [← pow_limb]; exact Nat.lt_of_le_of_lt hNle hPl
 have HXY:=Hd (And.intro (hx.below hba) (And.intro (hy.below hba) (And.intro (MayL.norm ky) ey)))
 have HM:=Hd hm
 have HBa:=Hd hba
 have HN:=Hd hN
 have HZ:=Hd hz
 have tk1:¬ (k:Int) < 0:=by omega
 have tk2:¬ (1000:Int) < (k:Int):=by omega
 have tk3:decide ((k:Int) < 0) = false:=decide_eq_false tk1
 have tk4:decide ((1000:Int) < (k:Int)) = false:=decide_eq_false tk2
 rw [hN] at hN0
 have HN0:=Hd hN0
 clear hN0
 have tz:¬ (0:Int) < (k:Int):=by omega
 clear KM hx hy bx hba hm kx ky ey vy hNle hPl hN hz
 go_enter Tryz.func11,Tryz.ntmps11
 go_wp2_with fail
 refine (Uh HKM).mono ?_
 rintro _ w1 ⟨rfl,b1⟩
 have f0:=(ck b1 p0); have f1:=(ck b1 p1); have f2:=(ck b1 p2)
 have HB1:=Hd ((Below.refl wa.heap.size wa).trans b1)
 clear b1 HKM p0 p1 p2
 have HKT:=Hd (wten_any k (by omega) w1.drew)
 go_wp2_with fail
 go_region_held3 (fun w' => w'.cell? ⟨w.heap.size,0,none⟩ = some (.bool true) ∧ w'.cell? ⟨w.heap.size,1,none⟩ = some (.slice a n c) ∧ w'.cell? ⟨w.heap.size,2,none⟩ = some (.slice b m d)) (first | go_keep | (exact ⟨k0,k1,k2⟩) | (exact ⟨j0,j1,j2⟩) | (exact ⟨i0,i1,i2⟩))
  (first
   | (go_at_call 35; refine (Uh HKT).mono ?_; rintro _ w2 ⟨au,mu,cu,rfl,su,nu,zu,b2⟩; have hb2:Below w1.heap.size w1 w2:=(Below.refl _ _).drew.trans b2; have k0:=(ck hb2 f0); have k1:=(ck hb2 f1); have k2:=(ck hb2 f2); have HB2:=Hd ((Uh HB1).trans (hb2.mono (Uh HB1).size)); have S2:=Hd su; clear su nu zu b2 hb2)
   | (go_at_call 34; refine (wmulw_any a au n c mu cu x (limbs (10 ^ k)) w2 ((Uh HXY).1.below (Uh HB2)) (Uh S2) ox (limbs_ok _) (by have:=(Uh S2).len; omega)).mono ?_; rintro _ w3 ⟨ap,mp,cp,rfl,sp,np,zp,b3⟩; rw [limbs_v] at sp; have j0:=(ck b3 k0); have j1:=(ck b3 k1); have j2:=(ck b3 k2); have HB3:=Hd ((Uh HB2).trans (b3.mono (Uh HB2).size)); have S3:=Hd (And.intro sp zp); clear sp np zp b3)
   | (go_at_call 33; have KR:=wnearest_any ap b mp cp m d (limbs (val x * 10 ^ k)) y w3 (Uh S3).1 (Uh S3).2 ((Uh HXY).2.1.below (Uh HB3)) (limbs_ok _) oy (limbs_norm _) (Uh HXY).2.2.1 (Uh HXY).2.2.2 (by have:=(Uh S3).1.len; omega) (by omega); rw [limbs_v,Uh HN] at KR; refine KR.mono ?_; clear KR; rintro _ w4 ⟨an,mn,cn,rfl,sn,nn,zn,b4⟩; have i0:=(ck b4 j0); have i1:=(ck b4 j1); have i2:=(ck b4 j2); have HB4:=Hd ((Uh HB3).trans (b4.mono (Uh HB3).size)); have S4:=Hd sn; clear sn nn zn b4))
 clear HKT S2 S3 HB1 HB2 HB3 f0 f1 f2 k0 k1 k2 j0 j1 j2
 have hmn:(0 < mn ↔ N ≠ 0):=by
  have h4:=(Uh S4).len
  constructor
  ·intro e g
   rw [g,limbs_zero] at h4; simp at h4; omega
  ·intro e
   rcases Nat.eq_zero_or_pos mn with g | g
   ·rw [g] at h4; exact absurd (limbs_eq_nil.1 (List.eq_nil_of_length_eq_zero h4)) e
   ·exact g
 have tn:(0:Int) < (mn:Int):=by have:=Uh HN0; omega
 clear hmn
 have HKD:=Hd (wdigits_any an mn cn N w4 (Uh S4) (by have:=(Uh S4).len; omega))
 try go_wp2_with fail
 refine (Uh HKD).mono ?_
 rintro _ w5 ⟨L,hT,rfl,b5⟩
 have h0:=(ck b5 i0); have h1:=(ck b5 i1); have h2:=(ck b5 i2)
 have HB5:=Hd ((Uh HBa).trans (((Uh HB4).trans (b5.mono (Uh HB4).size)).mono (Uh HBa).size))
 have hL1:=hT.pos
 have hLt:=hT.lt
 have hLn:L ≤ 32 * (n + (k + 1)) + 1:=by
  rcases hT.ge with e | e
  ·omega
  ·have h3:2 ^ (L - 1) ≤ 10 ^ (L - 1):=Nat.pow_le_pow_left (by decide) _
   have:=(Nat.pow_lt_pow_iff_right (by decide:1 < 2)).1 (show 2 ^ (L - 1) < 2 ^ (32 * (n + (k + 1))) by omega)
   omega
 have HT:=Hd (And.intro hT hLt)
 clear hT hLt b5 HKD HB4 S4 i0 i1 i2 hN32 lN lP hU
 go_wp2_with fail
 go_loopg [7] (k + 2) (fun gq sv wr => ∃ j:Nat,L ≤ j ∧ j ≤ max L (k + 1) ∧ k + 2 - j ≤ gq ∧ sv = .string (strB (txtL N 10 j)) ∧ wr = w5)
 case atStart => exact ⟨L,Nat.le_refl _,by omega,by omega,rfl,rfl⟩
 case round =>
  obtain ⟨j,hj1,hj2,hgq,rfl,hw⟩:=hrel
  obtain rfl:=hw.symm
  clear hw
  have hsz:(strB (txtL N 10 j)).size = j:=by rw [strB_len,txtL_len]
  by_cases hjk:j ≤ k
  ·have tj:(j:Int) ≤ (k:Int):=by omega
   exfalso
   have:=Uh HZ
   omega
  ·have tj:¬ (j:Int) ≤ (k:Int):=by omega
   have hjM:j = max L (k + 1):=by omega
   have HTu:=Hd ((Uh HT).1.up (k:=k) hjM)
   have hjk2:(j:Int) - (k:Int) = ((j - k:Nat):Int):=by omega
   have hspl:txtL N 10 j = txtL (N / 10 ^ k) 10 (j - k) ++ txtL (N % 10 ^ k) 10 k:=by rw [← txtL_split]; congr 1; omega
   have hsp1:(strB (txtL N 10 j)).extract 0 (j - k) = strB (txtL (N / 10 ^ k) 10 (j - k)):=by rw [hspl]; exact strB_front _ _ (txtL_len _ _ _)
   have hsp2:(strB (txtL N 10 j)).extract (j - k) j = strB (txtL (N % 10 ^ k) 10 k):=by rw [hspl]; exact strB_back _ _ (txtL_len _ _ _) (by rw [txtL_len]; omega)
   have hs1:(strB (txtL (N / 10 ^ k) 10 (j - k))).size = j - k:=by rw [strB_len,txtL_len]
   have hs2:(strB (txtL (N % 10 ^ k) 10 k)).size = k:=by rw [strB_len,txtL_len]
   have HSZ:=Hd (show strB (txtL N 10 j) = strB (txtL (N / 10 ^ k) 10 (j - k)) by rw [Uh HZ]; simp)
   have HD:=Hd (And.intro hs1 hs2)
   have HX:=Hd (fun (t:ByteArray) (ht:t = mnB true ++ (strB (txtL (N / 10 ^ k) 10 (j - k)) ++ dotB N k)) => (show DcR true x y (k:Nat) t 0 by rw [ht]; have:=DcR.text (g:=true) (x:=x) (y:=y) (pl:=(k:Nat)) k (j - k) N (Uh HM) rfl hk (Uh HN).symm (Uh HTu); rw [show (true && decide (N ≠ 0)) = true by simp; exact Uh HN0] at this; exact this))
   rw [dotB_zero _ (Uh HZ)] at HX
   generalize strB (txtL (N / 10 ^ k) 10 (j - k)) = S1 at *
   generalize strB (txtL (N % 10 ^ k) 10 k) = S2 at *
   generalize strB (txtL N 10 j) = SS at *
   have HSP:=Hd (And.intro hsp1 hsp2)
   clear hspl hjM
   go_wp2_with fail
   go_ret2
   refine ⟨_,_,rfl,Uh HX _ ?_,by first | exact Uh HB5 | exact bel_drewN (Uh HB5) _⟩
   rw [← Uh HSZ]
   show _ = (⟨#[45]⟩:ByteArray) ++ (SS ++ ⟨#[]⟩)
   rw [show SS ++ (⟨#[]⟩:ByteArray) = SS from ByteArray.append_empty]
   try (first | rfl | exact (ByteArray.empty_append).symm)
set_option maxRecDepth 100000 in
set_option maxHeartbeats 16000000 in
theorem wdec_nF (a b:Option Addr) (n c m d:Nat) (x y:List Nat) (k:Nat) (w:World) (hx:Sl w a n c x) (hy:Sl w b m d y) (ox:Ok x) (oy:Ok y) (nx:a = none → c = 0) (hm:MayR false x y = true) (hk:k ≤ 1000) (hz:k ≠ 0) :
  Calls Tryz.prog 11 #[ratV false a n c b m d,.int .i64 (k:Nat)] w fun e w' => DcPost false x y (k:Nat) w e w':=by
 have bx:=Box.made w false a n c b m d
 obtain ⟨wa,hwa⟩:∃ wa,ratBox w false a n c b m d = wa:=⟨_,rfl⟩
 rw [hwa] at bx
 unfold ratBox at hwa
 have hba:=bx.bel
 have p0:=bx.d0
 have p1:=bx.d1
 have p2:=bx.d2
 obtain ⟨kx,ky,ey,_,_⟩:=MayR.parts hm
 have vy:=val_pos_of_may ky ey
 have hn:n ≤ 2048:=by have:=MayL.len kx; have:=hx.len; omega
 have hm2:m ≤ 2048:=by have:=MayL.len ky; have:=hy.len; omega
 have KM:=wmay_any false a b n c m d x y wa (hx.below hba) (hy.below hba) ox oy
 rw [hm] at KM
 unfold ratV at KM ⊢
 have HKM:=Hd KM
 have hU:=ten_len (Nat.le_refl (10 ^ k))
 obtain ⟨N,hN⟩:∃ N,rdQ (val x * 10 ^ k) (val y) = N:=⟨_,rfl⟩
 have hNle:N ≤ val x * 10 ^ k:=by rw [← hN]; exact rdQ_le vy
 have hPl:val x * 10 ^ k < 4294967296 ^ (n + (k + 1)):=by
  rw [Nat.pow_add]
  have h1:=val_lt ox
  rw [hx.len] at h1
  exact Nat.mul_lt_mul'' h1 (ten_lt (Nat.le_refl _))
 have lP:=limbs_len hPl
 have lN:=limbs_len (Nat.lt_of_le_of_lt hNle hPl)
 have hN32:N < 2 ^ (32 * (n + (k + 1))):=by rw [← pow_limb]; exact Nat.lt_of_le_of_lt hNle hPl
 have HXY:=Hd (And.intro (hx.below hba) (And.intro (hy.below hba) (And.intro (MayL.norm ky) ey)))
 have HM:=Hd hm
 have HBa:=Hd hba
 have HN:=Hd hN
 have HZ:=Hd hz
 have tk1:¬ (k:Int) < 0:=by omega
 have tk2:¬ (1000:Int) < (k:Int):=by omega
 have tk3:decide ((k:Int) < 0) = false:=decide_eq_false tk1
 have tk4:decide ((1000:Int) < (k:Int)) = false:=decide_eq_false tk2
 have tz:(0:Int) < (k:Int):=by omega
 clear KM hx hy bx hba hm kx ky ey vy hNle hPl hN hz
 go_enter Tryz.func11,Tryz.ntmps11
 go_wp2_with fail
 refine (Uh HKM).mono ?_
 rintro _ w1 ⟨rfl,b1⟩
 have f0:=(ck b1 p0); have f1:=(ck b1 p1); have f2:=(ck b1 p2)
 have HB1:=Hd ((Below.refl wa.heap.size wa).trans b1)
 clear b1 HKM p0 p1 p2
 have HKT:=Hd (wten_any k (by omega) w1.drew)
 go_wp2_with fail
 go_region_held3 (fun w' => w'.cell? ⟨w.heap.size,0,none⟩ = some (.bool false) ∧ w'.cell? ⟨w.heap.size,1,none⟩ = some (.slice a n c) ∧ w'.cell? ⟨w.heap.size,2,none⟩ = some (.slice b m d)) (first | go_keep | (exact ⟨k0,k1,k2⟩) | (exact ⟨j0,j1,j2⟩) | (exact ⟨i0,i1,i2⟩))
  (first
   | (go_at_call 35; refine (Uh HKT).mono ?_; rintro _ w2 ⟨au,mu,cu,rfl,su,nu,zu,b2⟩; have hb2:Below w1.heap.size w1 w2:=(Below.refl _ _).drew.trans b2; have k0:=(ck hb2 f0); have k1:=(ck hb2 f1); have k2:=(ck hb2 f2); have HB2:=Hd ((Uh HB1).trans (hb2.mono (Uh HB1).size)); have S2:=Hd su; clear su nu zu b2 hb2)
   | (go_at_call 34; refine (wmulw_any a au n c mu cu x (limbs (10 ^ k)) w2 ((Uh HXY).1.below (Uh HB2)) (Uh S2) ox (limbs_ok _) (by have:=(Uh S2).len; omega)).mono ?_; rintro _ w3 ⟨ap,mp,cp,rfl,sp,np,zp,b3⟩; rw [limbs_v] at sp; have j0:=(ck b3 k0); have j1:=(ck b3 k1); have j2:=(ck b3 k2); have HB3:=Hd ((Uh HB2).trans (b3.mono (Uh HB2).size)); have S3:=Hd (And.intro sp zp); clear sp np zp b3)
   | (go_at_call 33; have KR:=wnearest_any ap b mp cp m d (limbs (val x * 10 ^ k)) y w3 (Uh S3).1 (Uh S3).2 ((Uh HXY).2.1.below (Uh HB3)) (limbs_ok _) oy (limbs_norm _) (Uh HXY).2.2.1 (Uh HXY).2.2.2 (by have:=(Uh S3).1.len; omega) (by omega); rw [limbs_v,Uh HN] at KR; refine KR.mono ?_; clear KR; rintro _ w4 ⟨an,mn,cn,rfl,sn,nn,zn,b4⟩; have i0:=(ck b4 j0); have i1:=(ck b4 j1); have i2:=(ck b4 j2); have HB4:=Hd ((Uh HB3).trans (b4.mono (Uh HB3).size)); have S4:=Hd sn; clear sn nn zn b4))
 clear HKT S2 S3 HB1 HB2 HB3 f0 f1 f2 k0 k1 k2 j0 j1 j2
 have hmn:(0 < mn ↔ N ≠ 0):=by
  have h4:=(Uh S4).len
  constructor
  ·intro e g
   rw [g,limbs_zero] at h4; simp at h4; omega
  ·intro e
   rcases Nat.eq_zero_or_pos mn with g | g
   ·rw [g] at h4; exact absurd (limbs_eq_nil.1 (List.eq_nil_of_length_eq_zero h4)) e
   ·exact g
 clear hmn
 have HKD:=Hd (wdigits_any an mn cn N w4 (Uh S4) (by have:=(Uh S4).len; omega))
 try go_wp2_with fail
 refine (Uh HKD).mono ?_
 rintro _ w5 ⟨L,hT,rfl,b5⟩
 have h0:=(ck b5 i0); have h1:=(ck b5 i1); have h2:=(ck b5 i2)
 have HB5:=Hd ((Uh HBa).trans (((Uh HB4).trans (b5.mono (Uh HB4).size)).mono (Uh HBa).size))
 have hL1:=hT.pos
 have hLt:=hT.lt
 have hLn:L ≤ 32 * (n + (k + 1)) + 1:=by
  rcases hT.ge with e | e
  ·omega
  ·have h3:2 ^ (L - 1) ≤ 10 ^ (L - 1):=Nat.pow_le_pow_left (by decide) _
   have:=(Nat.pow_lt_pow_iff_right (by decide:1 < 2)).1 (show 2 ^ (L - 1) < 2 ^ (32 * (n + (k + 1))) by omega)
   omega
 have HT:=Hd (And.intro hT hLt)
 clear hT hLt b5 HKD HB4 S4 i0 i1 i2 hN32 lN lP hU
 go_wp2_with fail
 go_loopg [7] (k + 2) (fun gq sv wr => ∃ j:Nat,L ≤ j ∧ j ≤ max L (k + 1) ∧ k + 2 - j ≤ gq ∧ sv = .string (strB (txtL N 10 j)) ∧ wr = w5)
 case atStart => exact ⟨L,Nat.le_refl _,by omega,by omega,rfl,rfl⟩
 case round =>
  obtain ⟨j,hj1,hj2,hgq,rfl,hw⟩:=hrel
  obtain rfl:=hw.symm
  clear hw
  have hsz:(strB (txtL N 10 j)).size = j:=by rw [strB_len,txtL_len]
  by_cases hjk:j ≤ k
  ·have tj:(j:Int) ≤ (k:Int):=by omega
   have HS:=Hd (show (⟨#[48]⟩:ByteArray) ++ strB (txtL N 10 j) = strB (txtL N 10 (j + 1)) by rw [strB_cons,txtL_pad (Nat.lt_of_lt_of_le (Uh HT).2 (Nat.pow_le_pow_right (by decide) hj1))])
   generalize strB (txtL N 10 j) = SS at *
   go_wp2_with fail
   go_roundg (k + 2 - (j + 1))
   case measure => omega
   case rel => exact ⟨j + 1,by omega,by omega,Nat.le_refl _,by rw [← Uh HS],rfl⟩
  ·have tj:¬ (j:Int) ≤ (k:Int):=by omega
   have hjM:j = max L (k + 1):=by omega
   have HTu:=Hd ((Uh HT).1.up (k:=k) hjM)
   have hjk2:(j:Int) - (k:Int) = ((j - k:Nat):Int):=by omega
   have hspl:txtL N 10 j = txtL (N / 10 ^ k) 10 (j - k) ++ txtL (N % 10 ^ k) 10 k:=by rw [← txtL_split]; congr 1; omega
   have hsp1:(strB (txtL N 10 j)).extract 0 (j - k) = strB (txtL (N / 10 ^ k) 10 (j - k)):=by rw [hspl]; exact strB_front _ _ (txtL_len _ _ _)
   have hsp2:(strB (txtL N 10 j)).extract (j - k) j = strB (txtL (N % 10 ^ k) 10 k):=by rw [hspl]; exact strB_back _ _ (txtL_len _ _ _) (by rw [txtL_len]; omega)
   have hs1:(strB (txtL (N / 10 ^ k) 10 (j - k))).size = j - k:=by rw [strB_len,txtL_len]
   have hs2:(strB (txtL (N % 10 ^ k) 10 k)).size = k:=by rw [strB_len,txtL_len]
   have HD:=Hd (And.intro hs1 hs2)
   have HX:=Hd (fun (t:ByteArray) (ht:t = mnB false ++ (strB (txtL (N / 10 ^ k) 10 (j - k)) ++ dotB N k)) => (show DcR false x y (k:Nat) t 0 by rw [ht]; have:=DcR.text (g:=false) (x:=x) (y:=y) (pl:=(k:Nat)) k (j - k) N (Uh HM) rfl hk (Uh HN).symm (Uh HTu); rw [show (false && decide (N ≠ 0)) = false by rfl] at this; exact this))
   rw [dotB_pos _ (Uh HZ)] at HX
   generalize strB (txtL (N / 10 ^ k) 10 (j - k)) = S1 at *
   generalize strB (txtL (N % 10 ^ k) 10 k) = S2 at *
   generalize strB (txtL N 10 j) = SS at *
   have HSP:=Hd (And.intro hsp1 hsp2)
   clear hspl hjM
   go_wp2_with fail
   go_quiet (fail)
   try go_wp2_with fail
   go_ret2
   refine ⟨_,_,rfl,Uh HX _ ?_,by first | exact Uh HB5 | exact bel_drewN (Uh HB5) _⟩
   show _ = (⟨#[]⟩:ByteArray) ++ (S1 ++ (⟨#[46]⟩ ++ S2))
   try simp only [(Uh HSP).1,(Uh HSP).2]
   rw [show S1 ++ ((⟨#[46]⟩:ByteArray) ++ S2) = S1 ++ ⟨#[46]⟩ ++ S2 from (ByteArray.append_assoc).symm]
   try (first | rfl | exact (ByteArray.empty_append).symm)
set_option maxRecDepth 100000 in
set_option maxHeartbeats 16000000 in
theorem wdec_nZ (a b:Option Addr) (n c m d:Nat) (x y:List Nat) (k:Nat) (w:World) (hx:Sl w a n c x) (hy:Sl w b m d y) (ox:Ok x) (oy:Ok y) (nx:a = none → c = 0) (hm:MayR true x y = true) (hk:k ≤ 1000) (hz:k ≠ 0) (hN0:rdQ (val x * 10 ^ k) (val y) = 0) :
  Calls Tryz.prog 11 #[ratV true a n c b m d,.int .i64 (k:Nat)] w fun e w' => DcPost true x y (k:Nat) w e w':=by
 have bx:=Box.made w true a n c b m d
 obtain ⟨wa,hwa⟩:∃ wa,ratBox w true a n c b m d = wa:=⟨_,rfl⟩
 rw [hwa] at bx
 unfold ratBox at hwa
 have hba:=bx.bel
 have p0:=bx.d0
 have p1:=bx.d1
 have p2:=bx.d2
 obtain ⟨kx,ky,ey,_,_⟩:=MayR.parts hm
 have vy:=val_pos_of_may ky ey
 have hn:n ≤ 2048:=by have:=MayL.len kx; have:=hx.len; omega
 have hm2:m ≤ 2048:=by have:=MayL.len ky; have:=hy.len; omega
 have KM:=wmay_any true a b n c m d x y wa (hx.below hba) (hy.below hba) ox oy
 rw [hm] at KM
 unfold ratV at KM ⊢
 have HKM:=Hd KM
 have hU:=ten_len (Nat.le_refl (10 ^ k))
 obtain ⟨N,hN⟩:∃ N,rdQ (val x * 10 ^ k) (val y) = N:=⟨_,rfl⟩
 have hNle:N ≤ val x * 10 ^ k:=by rw [← hN]; exact rdQ_le vy
 have hPl:val x * 10 ^ k < 4294967296 ^ (n + (k + 1)):=by
  rw [Nat.pow_add]
  have h1:=val_lt ox
  rw [hx.len] at h1
  exact Nat.mul_lt_mul'' h1 (ten_lt (Nat.le_refl _))
 have lP:=limbs_len hPl
 have lN:=limbs_len (Nat.lt_of_le_of_lt hNle hPl)
 have hN32:N < 2 ^ (32 * (n + (k + 1))):=by rw [← pow_limb]; exact Nat.lt_of_le_of_lt hNle hPl
 have HXY:=Hd (And.intro (hx.below hba) (And.intro (hy.below hba) (And.intro (MayL.norm ky) ey)))
 have HM:=Hd hm
 have HBa:=Hd hba
 have HN:=Hd hN
 have HZ:=Hd hz
 have tk1:¬ (k:Int) < 0:=by omega
 have tk2:¬ (1000:Int) < (k:Int):=by omega
 have tk3:decide ((k:Int) < 0) = false:=decide_eq_false tk1
 have tk4:decide ((1000:Int) < (k:Int)) = false:=decide_eq_false tk2
 rw [hN] at hN0
 have HN0:=Hd hN0
 clear hN0
 have tz:(0:Int) < (k:Int):=by omega
 clear KM hx hy bx hba hm kx ky ey vy hNle hPl hN hz
 go_enter Tryz.func11,Tryz.ntmps11
 go_wp2_with fail
 refine (Uh HKM).mono ?_
 rintro _ w1 ⟨rfl,b1⟩
 have f0:=(ck b1 p0); have f1:=(ck b1 p1); have f2:=(ck b1 p2)
 have HB1:=Hd ((Below.refl wa.heap.size wa).trans b1)
 clear b1 HKM p0 p1 p2
 have HKT:=Hd (wten_any k (by omega) w1.drew)
 go_wp2_with fail
 go_region_held3 (fun w' => w'.cell? ⟨w.heap.size,0,none⟩ = some (.bool true) ∧ w'.cell? ⟨w.heap.size,1,none⟩ = some (.slice a n c) ∧ w'.cell? ⟨w.heap.size,2,none⟩ = some (.slice b m d)) (first | go_keep | (exact ⟨k0,k1,k2⟩) | (exact ⟨j0,j1,j2⟩) | (exact ⟨i0,i1,i2⟩))
  (first
   | (go_at_call 35; refine (Uh HKT).mono ?_; rintro _ w2 ⟨au,mu,cu,rfl,su,nu,zu,b2⟩; have hb2:Below w1.heap.size w1 w2:=(Below.refl _ _).drew.trans b2; have k0:=(ck hb2 f0); have k1:=(ck hb2 f1); have k2:=(ck hb2 f2); have HB2:=Hd ((Uh HB1).trans (hb2.mono (Uh HB1).size)); have S2:=Hd su; clear su nu zu b2 hb2)
   | (go_at_call 34; refine (wmulw_any a au n c mu cu x (limbs (10 ^ k)) w2 ((Uh HXY).1.below (Uh HB2)) (Uh S2) ox (limbs_ok _) (by have:=(Uh S2).len; omega)).mono ?_; rintro _ w3 ⟨ap,mp,cp,rfl,sp,np,zp,b3⟩; rw [limbs_v] at sp; have j0:=(ck b3 k0); have j1:=(ck b3 k1); have j2:=(ck b3 k2); have HB3:=Hd ((Uh HB2).trans (b3.mono (Uh HB2).size)); have S3:=Hd (And.intro sp zp); clear sp np zp b3)
   | (go_at_call 33; have KR:=wnearest_any ap b mp cp m d (limbs (val x * 10 ^ k)) y w3 (Uh S3).1 (Uh S3).2 ((Uh HXY).2.1.below (Uh HB3)) (limbs_ok _) oy (limbs_norm _) (Uh HXY).2.2.1 (Uh HXY).2.2.2 (by have:=(Uh S3).1.len; omega) (by omega); rw [limbs_v,Uh HN] at KR; refine KR.mono ?_; clear KR; rintro _ w4 ⟨an,mn,cn,rfl,sn,nn,zn,b4⟩; have i0:=(ck b4 j0); have i1:=(ck b4 j1); have i2:=(ck b4 j2); have HB4:=Hd ((Uh HB3).trans (b4.mono (Uh HB3).size)); have S4:=Hd sn; clear sn nn zn b4))
 clear HKT S2 S3 HB1 HB2 HB3 f0 f1 f2 k0 k1 k2 j0 j1 j2
 have hmn:(0 < mn ↔ N ≠ 0):=by
  have h4:=(Uh S4).len
  constructor
  ·intro e g
   rw [g,limbs_zero] at h4; simp at h4; omega
  ·intro e
   rcases Nat.eq_zero_or_pos mn with g | g
   ·rw [g] at h4; exact absurd (limbs_eq_nil.1 (List.eq_nil_of_length_eq_zero h4)) e
   ·exact g
 obtain rfl:mn = 0:=by have:=Uh HN0; omega
 clear hmn
 have HKD:=Hd (wdigits_any an 0 cn N w4 (Uh S4) (by have:=(Uh S4).len; omega))
 try go_wp2_with fail
 refine (Uh HKD).mono ?_
 rintro _ w5 ⟨L,hT,rfl,b5⟩
 have h0:=(ck b5 i0); have h1:=(ck b5 i1); have h2:=(ck b5 i2)
 have HB5:=Hd ((Uh HBa).trans (((Uh HB4).trans (b5.mono (Uh HB4).size)).mono (Uh HBa).size))
 have hL1:=hT.pos
 have hLt:=hT.lt
 have hLn:L ≤ 32 * (n + (k + 1)) + 1:=by
  rcases hT.ge with e | e
  ·omega
  ·have h3:2 ^ (L - 1) ≤ 10 ^ (L - 1):=Nat.pow_le_pow_left (by decide) _
   have:=(Nat.pow_lt_pow_iff_right (by decide:1 < 2)).1 (show 2 ^ (L - 1) < 2 ^ (32 * (n + (k + 1))) by omega)
   omega
 have HT:=Hd (And.intro hT hLt)
 clear hT hLt b5 HKD HB4 S4 i0 i1 i2 hN32 lN lP hU
 go_wp2_with fail
 go_loopg [7] (k + 2) (fun gq sv wr => ∃ j:Nat,L ≤ j ∧ j ≤ max L (k + 1) ∧ k + 2 - j ≤ gq ∧ sv = .string (strB (txtL N 10 j)) ∧ wr = w5)
 case atStart => exact ⟨L,Nat.le_refl _,by omega,by omega,rfl,rfl⟩
 case round =>
  obtain ⟨j,hj1,hj2,hgq,rfl,hw⟩:=hrel
  obtain rfl:=hw.symm
  clear hw
  have hsz:(strB (txtL N 10 j)).size = j:=by rw [strB_len,txtL_len]
  by_cases hjk:j ≤ k
  ·have tj:(j:Int) ≤ (k:Int):=by omega
   have HS:=Hd (show (⟨#[48]⟩:ByteArray) ++ strB (txtL N 10 j) = strB (txtL N 10 (j + 1)) by rw [strB_cons,txtL_pad (Nat.lt_of_lt_of_le (Uh HT).2 (Nat.pow_le_pow_right (by decide) hj1))])
   generalize strB (txtL N 10 j) = SS at *
   go_wp2_with fail
   go_roundg (k + 2 - (j + 1))
   case measure => omega
   case rel => exact ⟨j + 1,by omega,by omega,Nat.le_refl _,by rw [← Uh HS],rfl⟩
  ·have tj:¬ (j:Int) ≤ (k:Int):=by omega
   have hjM:j = max L (k + 1):=by omega
   have HTu:=Hd ((Uh HT).1.up (k:=k) hjM)
   have hjk2:(j:Int) - (k:Int) = ((j - k:Nat):Int):=by omega
   have hspl:txtL N 10 j = txtL (N / 10 ^ k) 10 (j - k) ++ txtL (N % 10 ^ k) 10 k:=by rw [← txtL_split]; congr 1; omega
   have hsp1:(strB (txtL N 10 j)).extract 0 (j - k) = strB (txtL (N / 10 ^ k) 10 (j - k)):=by rw [hspl]; exact strB_front _ _ (txtL_len _ _ _)
   have hsp2:(strB (txtL N 10 j)).extract (j - k) j = strB (txtL (N % 10 ^ k) 10 k):=by rw [hspl]; exact strB_back _ _ (txtL_len _ _ _) (by rw [txtL_len]; omega)
   have hs1:(strB (txtL (N / 10 ^ k) 10 (j - k))).size = j - k:=by rw [strB_len,txtL_len]
   have hs2:(strB (txtL (N % 10 ^ k) 10 k)).size = k:=by rw [strB_len,txtL_len]
   have HD:=Hd (And.intro hs1 hs2)
   have HX:=Hd (fun (t:ByteArray) (ht:t = mnB false ++ (strB (txtL (N / 10 ^ k) 10 (j - k)) ++ dotB N k)) => (show DcR true x y (k:Nat) t 0 by rw [ht]; have:=DcR.text (g:=true) (x:=x) (y:=y) (pl:=(k:Nat)) k (j - k) N (Uh HM) rfl hk (Uh HN).symm (Uh HTu); rw [show (true && decide (N ≠ 0)) = false by simp; exact Uh HN0] at this; exact this))
   rw [dotB_pos _ (Uh HZ)] at HX
   generalize strB (txtL (N / 10 ^ k) 10 (j - k)) = S1 at *
   generalize strB (txtL (N % 10 ^ k) 10 k) = S2 at *
   generalize strB (txtL N 10 j) = SS at *
   have HSP:=Hd (And.intro hsp1 hsp2)
   clear hspl hjM
   go_wp2_with fail
   go_quiet (fail)
   try go_wp2_with fail
   go_ret2
   refine ⟨_,_,rfl,Uh HX _ ?_,by first | exact Uh HB5 | exact bel_drewN (Uh HB5) _⟩
   show _ = (⟨#[]⟩:ByteArray) ++ (S1 ++ (⟨#[46]⟩ ++ S2))
   try simp only [(Uh HSP).1,(Uh HSP).2]
   rw [show S1 ++ ((⟨#[46]⟩:ByteArray) ++ S2) = S1 ++ ⟨#[46]⟩ ++ S2 from (ByteArray.append_assoc).symm]
   try (first | rfl | exact (ByteArray.empty_append).symm)
set_option maxRecDepth 100000 in
set_option maxHeartbeats 16000000 in
theorem wdec_nP (a b:Option Addr) (n c m d:Nat) (x y:List Nat) (k:Nat) (w:World) (hx:Sl w a n c x) (hy:Sl w b m d y) (ox:Ok x) (oy:Ok y) (nx:a = none → c = 0) (hm:MayR true x y = true) (hk:k ≤ 1000) (hz:k ≠ 0) (hN0:rdQ (val x * 10 ^ k) (val y) ≠ 0) :
  Calls Tryz.prog 11 #[ratV true a n c b m d,.int .i64 (k:Nat)] w fun e w' => DcPost true x y (k:Nat) w e w':=by
 have bx:=Box.made w true a n c b m d
 obtain ⟨wa,hwa⟩:∃ wa,ratBox w true a n c b m d = wa:=⟨_,rfl⟩
 rw [hwa] at bx
 unfold ratBox at hwa
 have hba:=bx.bel
 have p0:=bx.d0
 have p1:=bx.d1
 have p2:=bx.d2
 obtain ⟨kx,ky,ey,_,_⟩:=MayR.parts hm
 have vy:=val_pos_of_may ky ey
 have hn:n ≤ 2048:=by have:=MayL.len kx; have:=hx.len; omega
 have hm2:m ≤ 2048:=by have:=MayL.len ky; have:=hy.len; omega
 have KM:=wmay_any true a b n c m d x y wa (hx.below hba) (hy.below hba) ox oy
 rw [hm] at KM
 unfold ratV at KM ⊢
 have HKM:=Hd KM
 have hU:=ten_len (Nat.le_refl (10 ^ k))
 obtain ⟨N,hN⟩:∃ N,rdQ (val x * 10 ^ k) (val y) = N:=⟨_,rfl⟩
 have hNle:N ≤ val x * 10 ^ k:=by rw [← hN]; exact rdQ_le vy
 have hPl:val x * 10 ^ k < 4294967296 ^ (n + (k + 1)):=by
  rw [Nat.pow_add]
  have h1:=val_lt ox
  rw [hx.len] at h1
  exact Nat.mul_lt_mul'' h1 (ten_lt (Nat.le_refl _))
 have lP:=limbs_len hPl
 have lN:=limbs_len (Nat.lt_of_le_of_lt hNle hPl)
 have hN32:N < 2 ^ (32 * (n + (k + 1))):=by rw [← pow_limb]; exact Nat.lt_of_le_of_lt hNle hPl
 have HXY:=Hd (And.intro (hx.below hba) (And.intro (hy.below hba) (And.intro (MayL.norm ky) ey)))
 have HM:=Hd hm
 have HBa:=Hd hba
 have HN:=Hd hN
 have HZ:=Hd hz
 have tk1:¬ (k:Int) < 0:=by omega
 have tk2:¬ (1000:Int) < (k:Int):=by omega
 have tk3:decide ((k:Int) < 0) = false:=decide_eq_false tk1
 have tk4:decide ((1000:Int) < (k:Int)) = false:=decide_eq_false tk2
 rw [hN] at hN0
 have HN0:=Hd hN0
 clear hN0
 have tz:(0:Int) < (k:Int):=by omega
 clear KM hx hy bx hba hm kx ky ey vy hNle hPl hN hz
 go_enter Tryz.func11,Tryz.ntmps11
 go_wp2_with fail
 refine (Uh HKM).mono ?_
 rintro _ w1 ⟨rfl,b1⟩
 have f0:=(ck b1 p0); have f1:=(ck b1 p1); have f2:=(ck b1 p2)
 have HB1:=Hd ((Below.refl wa.heap.size wa).trans b1)
 clear b1 HKM p0 p1 p2
 have HKT:=Hd (wten_any k (by omega) w1.drew)
 go_wp2_with fail
 go_region_held3 (fun w' => w'.cell? ⟨w.heap.size,0,none⟩ = some (.bool true) ∧ w'.cell? ⟨w.heap.size,1,none⟩ = some (.slice a n c) ∧ w'.cell? ⟨w.heap.size,2,none⟩ = some (.slice b m d)) (first | go_keep | (exact ⟨k0,k1,k2⟩) | (exact ⟨j0,j1,j2⟩) | (exact ⟨i0,i1,i2⟩))
  (first
   | (go_at_call 35; refine (Uh HKT).mono ?_; rintro _ w2 ⟨au,mu,cu,rfl,su,nu,zu,b2⟩; have hb2:Below w1.heap.size w1 w2:=(Below.refl _ _).drew.trans b2; have k0:=(ck hb2 f0); have k1:=(ck hb2 f1); have k2:=(ck hb2 f2); have HB2:=Hd ((Uh HB1).trans (hb2.mono (Uh HB1).size)); have S2:=Hd su; clear su nu zu b2 hb2)
   | (go_at_call 34; refine (wmulw_any a au n c mu cu x (limbs (10 ^ k)) w2 ((Uh HXY).1.below (Uh HB2)) (Uh S2) ox (limbs_ok _) (by have:=(Uh S2).len; omega)).mono ?_; rintro _ w3 ⟨ap,mp,cp,rfl,sp,np,zp,b3⟩; rw [limbs_v] at sp; have j0:=(ck b3 k0); have j1:=(ck b3 k1); have j2:=(ck b3 k2); have HB3:=Hd ((Uh HB2).trans (b3.mono (Uh HB2).size)); have S3:=Hd (And.intro sp zp); clear sp np zp b3)
   | (go_at_call 33; have KR:=wnearest_any ap b mp cp m d (limbs (val x * 10 ^ k)) y w3 (Uh S3).1 (Uh S3).2 ((Uh HXY).2.1.below (Uh HB3)) (limbs_ok _) oy (limbs_norm _) (Uh HXY).2.2.1 (Uh HXY).2.2.2 (by have:=(Uh S3).1.len; omega) (by omega); rw [limbs_v,Uh HN] at KR; refine KR.mono ?_; clear KR; rintro _ w4 ⟨an,mn,cn,rfl,sn,nn,zn,b4⟩; have i0:=(ck b4 j0); have i1:=(ck b4 j1); have i2:=(ck b4 j2); have HB4:=Hd ((Uh HB3).trans (b4.mono (Uh HB3).size)); have S4:=Hd sn; clear sn nn zn b4))
 clear HKT S2 S3 HB1 HB2 HB3 f0 f1 f2 k0 k1 k2 j0 j1 j2
 have hmn:(0 < mn ↔ N ≠ 0):=by
  have h4:=(Uh S4).len
  constructor
  ·intro e g
   rw [g,limbs_zero] at h4; simp at h4; omega
  ·intro e
   rcases Nat.eq_zero_or_pos mn with g | g
   ·rw [g] at h4; exact absurd (limbs_eq_nil.1 (List.eq_nil_of_length_eq_zero h4)) e
   ·exact g
 have tn:(0:Int) < (mn:Int):=by have:=Uh HN0; omega
 clear hmn
 have HKD:=Hd (wdigits_any an mn cn N w4 (Uh S4) (by have:=(Uh S4).len; omega))
 try go_wp2_with fail
 refine (Uh HKD).mono ?_
 rintro _ w5 ⟨L,hT,rfl,b5⟩
 have h0:=(ck b5 i0); have h1:=(ck b5 i1); have h2:=(ck b5 i2)
 have HB5:=Hd ((Uh HBa).trans (((Uh HB4).trans (b5.mono (Uh HB4).size)).mono (Uh HBa).size))
 have hL1:=hT.pos
 have hLt:=hT.lt
 have hLn:L ≤ 32 * (n + (k + 1)) + 1:=by
  rcases hT.ge with e | e
  ·omega
  ·have h3:2 ^ (L - 1) ≤ 10 ^ (L - 1):=Nat.pow_le_pow_left (by decide) _
   have:=(Nat.pow_lt_pow_iff_right (by decide:1 < 2)).1 (show 2 ^ (L - 1) < 2 ^ (32 * (n + (k + 1))) by omega)
   omega
 have HT:=Hd (And.intro hT hLt)
 clear hT hLt b5 HKD HB4 S4 i0 i1 i2 hN32 lN lP hU
 go_wp2_with fail
 go_loopg [7] (k + 2) (fun gq sv wr => ∃ j:Nat,L ≤ j ∧ j ≤ max L (k + 1) ∧ k + 2 - j ≤ gq ∧ sv = .string (strB (txtL N 10 j)) ∧ wr = w5)
 case atStart => exact ⟨L,Nat.le_refl _,by omega,by omega,rfl,rfl⟩
 case round =>
  obtain ⟨j,hj1,hj2,hgq,rfl,hw⟩:=hrel
  obtain rfl:=hw.symm
  clear hw
  have hsz:(strB (txtL N 10 j)).size = j:=by rw [strB_len,txtL_len]
  by_cases hjk:j ≤ k
  ·have tj:(j:Int) ≤ (k:Int):=by omega
   have HS:=Hd (show (⟨#[48]⟩:ByteArray) ++ strB (txtL N 10 j) = strB (txtL N 10 (j + 1)) by rw [strB_cons,txtL_pad (Nat.lt_of_lt_of_le (Uh HT).2 (Nat.pow_le_pow_right (by decide) hj1))])
   generalize strB (txtL N 10 j) = SS at *
   go_wp2_with fail
   go_roundg (k + 2 - (j + 1))
   case measure => omega
   case rel => exact ⟨j + 1,by omega,by omega,Nat.le_refl _,by rw [← Uh HS],rfl⟩
  ·have tj:¬ (j:Int) ≤ (k:Int):=by omega
   have hjM:j = max L (k + 1):=by omega
   have HTu:=Hd ((Uh HT).1.up (k:=k) hjM)
   have hjk2:(j:Int) - (k:Int) = ((j - k:Nat):Int):=by omega
   have hspl:txtL N 10 j = txtL (N / 10 ^ k) 10 (j - k) ++ txtL (N % 10 ^ k) 10 k:=by rw [← txtL_split]; congr 1; omega
   have hsp1:(strB (txtL N 10 j)).extract 0 (j - k) = strB (txtL (N / 10 ^ k) 10 (j - k)):=by rw [hspl]; exact strB_front _ _ (txtL_len _ _ _)
   have hsp2:(strB (txtL N 10 j)).extract (j - k) j = strB (txtL (N % 10 ^ k) 10 k):=by rw [hspl]; exact strB_back _ _ (txtL_len _ _ _) (by rw [txtL_len]; omega)
   have hs1:(strB (txtL (N / 10 ^ k) 10 (j - k))).size = j - k:=by rw [strB_len,txtL_len]
   have hs2:(strB (txtL (N % 10 ^ k) 10 k)).size = k:=by rw [strB_len,txtL_len]
   have HD:=Hd (And.intro hs1 hs2)
   have HX:=Hd (fun (t:ByteArray) (ht:t = mnB true ++ (strB (txtL (N / 10 ^ k) 10 (j - k)) ++ dotB N k)) => (show DcR true x y (k:Nat) t 0 by rw [ht]; have:=DcR.text (g:=true) (x:=x) (y:=y) (pl:=(k:Nat)) k (j - k) N (Uh HM) rfl hk (Uh HN).symm (Uh HTu); rw [show (true && decide (N ≠ 0)) = true by simp; exact Uh HN0] at this; exact this))
   rw [dotB_pos _ (Uh HZ)] at HX
   generalize strB (txtL (N / 10 ^ k) 10 (j - k)) = S1 at *
   generalize strB (txtL (N % 10 ^ k) 10 k) = S2 at *
   generalize strB (txtL N 10 j) = SS at *
   have HSP:=Hd (And.intro hsp1 hsp2)
   clear hspl hjM
   go_wp2_with fail
   go_quiet (fail)
   try go_wp2_with fail
   go_ret2
   refine ⟨_,_,rfl,Uh HX _ ?_,by first | exact Uh HB5 | exact bel_drewN (Uh HB5) _⟩
   show _ = (⟨#[45]⟩:ByteArray) ++ (S1 ++ (⟨#[46]⟩ ++ S2))
   try simp only [(Uh HSP).1,(Uh HSP).2]
   rw [show S1 ++ ((⟨#[46]⟩:ByteArray) ++ S2) = S1 ++ ⟨#[46]⟩ ++ S2 from (ByteArray.append_assoc).symm]
   try (first | rfl | exact (ByteArray.empty_append).symm)
end Go.Proofs.YtncolonhdjkglaaGreatDoor
