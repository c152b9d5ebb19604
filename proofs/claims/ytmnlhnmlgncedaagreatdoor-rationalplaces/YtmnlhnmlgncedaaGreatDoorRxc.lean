/- Rx8 -/
import Derived.Test.YtmnlhnmlgncedaaGreatDoorRx7
import Derived.Test.YtmnlhnmlgncedaaGreatDoorRc1
import Derived.Test.YtmnlhnmlgncedaaGreatDoorRl2
import Derived.Deep.RegionHeld3
namespace Go.Proofs.YtmnlhnmlgncedaaGreatDoor
open Go.RowKit Go.Deep
set_option linter.unusedVariables false
theorem roundToPlaces_any (g:Bool) (a b:Option Addr) (n c m d:Nat) (x y:List Nat) (k:Nat) (w:World) (hx:Sl w a n c x) (hy:Sl w b m d y) (ox:Ok x) (oy:Ok y) (kx:MayL x = true) (ky:MayL y = true) (ey:y ≠ []) (hk:k ≤ 1000) :
  Calls Tryz.prog 48 #[ratV g a n c b m d,.int .i64 (k:Nat)] w fun e w' => RpPost w w' (val x) (val y) (10 ^ k) e:=by
 by_cases hz:k = 0
 ·cases hup:(decide (val y < val x % val y * 10 ^ k % val y + val x % val y * 10 ^ k % val y) || (decide (val y = val x % val y * 10 ^ k % val y + val x % val y * 10 ^ k % val y) && decide (val x / val y % 2 = 1)))
  ·exact rtp_zN g a b n c m d x y k w hx hy ox oy kx ky ey hk hz hup
  ·by_cases hc:val x % val y * 10 ^ k / val y + 1 = 10 ^ k
   ·exact rtp_zU g a b n c m d x y k w hx hy ox oy kx ky ey hk hz hup hc
   ·exact rtp_zL g a b n c m d x y k w hx hy ox oy kx ky ey hk hz hup hc
 ·cases hup:(decide (val y < val x % val y * 10 ^ k % val y + val x % val y * 10 ^ k % val y) || (decide (val y = val x % val y * 10 ^ k % val y + val x % val y * 10 ^ k % val y) && decide (val x % val y * 10 ^ k / val y % 2 = 1)))
  ·exact rtp_nN g a b n c m d x y k w hx hy ox oy kx ky ey hk hz hup
  ·by_cases hc:val x % val y * 10 ^ k / val y + 1 = 10 ^ k
   ·exact rtp_nU g a b n c m d x y k w hx hy ox oy kx ky ey hk hz hup hc
   ·exact rtp_nL g a b n c m d x y k w hx hy ox oy kx ky ey hk hz hup hc
def Rep0:Prop:=∀ (cn:Nat) (W:World),cn ≤ 1000 → Calls Tryz.prog 49 #[.string ⟨#[48]⟩,.int .i64 (cn:Nat)] W fun e w' => e = .returned (.string (strB (List.replicate cn 48))) ∧ Below W.heap.size W w'

theorem split_num {A B U N:Nat} (h:A * U + B = N) (hB:B < U):N / U = A ∧ N % U = B:=by
 have:=(Nat.div_mod_unique (show 0 < U by omega)).2 ⟨(show B + U * A = N by rw [Nat.mul_comm]; omega),hB⟩
 exact ⟨this.1,this.2⟩
theorem limbs_pos {v m:Nat} (h:(limbs v).length = m):0 < m ↔ v ≠ 0:=by
 constructor
 ·intro e g
  rw [g,limbs_zero] at h; simp at h; omega
 ·intro e
  rcases Nat.eq_zero_or_pos m with g | g
  ·rw [g] at h; exact absurd (limbs_eq_nil.1 (List.eq_nil_of_length_eq_zero h)) e
  ·exact g
theorem dec_text {k Bv LB:Nat} (hB:Bv < 10 ^ k) (hk:k ≠ 0) (ht:TxtOf Bv 10 LB):LB ≤ k ∧ strB (List.replicate (k - LB) 48) ++ strB (txtL Bv 10 LB) = strB (txtL Bv 10 k):=by
 have hl:=ht.le_of (by omega) hB
 refine ⟨hl,?_⟩
 rw [← strB_app,← txtL_pads ht.lt]
 congr 2
 omega

set_option maxRecDepth 100000 in
set_option maxHeartbeats 16000000 in
theorem rdec_zF (a b:Option Addr) (n c m d:Nat) (x y:List Nat) (k:Nat) (w:World) (hx:Sl w a n c x) (hy:Sl w b m d y) (ox:Ok x) (oy:Ok y) (hm:MayR false x y = true) (hk:k ≤ 1000) (hz:k = 0) (hT:Tab64 w) :
  Calls Tryz.prog 17 #[ratV false a n c b m d,.int .i64 (k:Nat)] w fun e w' => DcPost false x y (k:Nat) w e w':=by
 have bx:=Box.made w false a n c b m d
 obtain ⟨wa,hwa⟩:∃ wa,ratBox w false a n c b m d = wa:=⟨_,rfl⟩
 rw [hwa] at bx
 unfold ratBox at hwa
 have hba:=bx.bel
 have p0:=bx.d0
 have p1:=bx.d1
 have p2:=bx.d2
 obtain ⟨kx,ky,ey,_,_⟩:=MayR.parts hm
 have KM:=ratMay_any false a b n c m d x y wa (hx.below hba) (hy.below hba) ox oy (hT.below hba)
 rw [hm] at KM
 have KP:=fun (W:World) (hb:Below wa.heap.size wa W) => roundToPlaces_any false a b n c m d x y k W ((hx.below hba).below hb) ((hy.below hba).below hb) ox oy kx ky ey hk
 unfold ratV at KM KP ⊢
 have HKM:=Hj KM
 have HKP:=Hj KP
 have HM:=Hj hm
 have HBa:=Hj hba
 have HZ:=Hj hz
 have tk1:¬ (k:Int) < 0:=by omega
 have tk2:¬ (1000:Int) < (k:Int):=by omega
 have tk3:decide ((k:Int) < 0) = false:=decide_eq_false tk1
 have tk4:decide ((1000:Int) < (k:Int)) = false:=decide_eq_false tk2
 have tz:((k:Int) == 0) = true:=by simp [hz]
 clear KM KP hx hy bx hba hm kx ky ey hz hT
 go_enter Tryz.func17,Tryz.ntmps17
 go_wp2_with fail
 refine (Uh HKM).mono ?_
 rintro _ w1 ⟨rfl,b1⟩
 have f0:=(ck b1 p0); have f1:=(ck b1 p1); have f2:=(ck b1 p2)
 have HB1:=Hj b1
 clear b1 HKM p0 p1 p2
 go_wp2_with fail
 refine (Uh HKP _ (Uh HB1)).mono ?_
 rintro _ w2 ⟨aA,mA,cA,aB,mB,cB,A,Bv,rfl,⟨sA,sB⟩,⟨hNe,hBl⟩,⟨kA,kB⟩,b2⟩
 have h0:=(ck b2 f0); have h1:=(ck b2 f1); have h2:=(ck b2 f2)
 have HB2:=Hj ((Uh HB1).trans (b2.mono (Uh HB1).size))
 obtain ⟨hA1,hB1⟩:=split_num hNe hBl
 have hzA:=limbs_pos sA.len
 have hzB:=limbs_pos sB.len
 have hLA:mA ≤ 2048:=by have:=MayL.len kA; have:=sA.len; omega
 have hLB:mB ≤ 2048:=by have:=MayL.len kB; have:=sB.len; omega
 have hpU:0 < 10 ^ k:=Nat.pow_pos (by decide)
 have HKA:=Hj (fun (W:World) (hb:Below w2.heap.size w2 W) => digits_any aA mA cA (limbs A) W (sA.below hb) (limbs_ok _) kA)
 have HKB:=Hj (fun (W:World) (hb:Below w2.heap.size w2 W) => digits_any aB mB cB (limbs Bv) W (sB.below hb) (limbs_ok _) kB)
 rw [limbs_v] at HKA HKB
 have HNe:=Hj (And.intro hA1 (And.intro hB1 hBl))
 have HkA:=Hj (And.intro kA kB)
 clear sA sB hNe hBl kA kB b2 hA1 hB1 hzA hzB HKP HB1 f0 f1 f2 hpU
 go_wp2_with fail
 refine (ratMinusS_any false w2).mono ?_
 rintro _ _ ⟨rfl,hw⟩
 obtain rfl:=hw.symm
 clear hw
 have l3:=mnB_size false
 obtain ⟨MB,hMB⟩:∃ x,mnB false = x:=⟨_,rfl⟩
 rw [hMB] at l3 ⊢
 have HMB:=Hj hMB
 clear hMB
 go_wp2_with fail
 refine (Uh HKA _ (Below.refl _ _)).mono ?_
 rintro _ w3 ⟨LA,hTA,rfl,b3⟩
 have l1:=txt_len (limbs_ok A) (Uh HkA).1 (by rw [limbs_v]; exact hTA)
 rw [limbs_v] at l1
 obtain ⟨SA,hSA⟩:∃ x,strB (txtL A 10 LA) = x:=⟨_,rfl⟩
 rw [hSA] at l1 ⊢
 have HA:=Hj (And.intro hSA hTA)
 have HB3:=Hj b3
 clear hSA hTA b3 HKA
 have HX:=Hj (fun (t:ByteArray) (ht:t = mnB false ++ (SA ++ dotB (rdQ (val x * 10 ^ k) (val y)) k)) => (show DcR false x y (k:Nat) t 0 by rw [ht,← (Uh HA).1]; have:=DcR.text (g:=false) (x:=x) (y:=y) (pl:=(k:Nat)) k LA _ (Uh HM) rfl hk rfl (by rw [(Uh HNe).1]; exact (Uh HA).2); rw [(Uh HNe).1,show (false && decide (rdQ (val x * 10 ^ k) (val y) ≠ 0)) = false by rfl] at this; exact this))
 rw [dotB_zero _ (Uh HZ),Uh HMB] at HX
 go_wp2_with fail
 go_ret2
 refine ⟨_,_,rfl,Uh HX _ ?_,?_⟩
 ·show MB ++ SA = MB ++ (SA ++ ⟨#[]⟩)
  rw [show SA ++ (⟨#[]⟩:ByteArray) = SA from ByteArray.append_empty]
 ·exact ((Uh HBa).trans ((Uh HB2).mono (Uh HBa).size)).trans ((Uh HB3).mono (Nat.le_trans (Uh HBa).size (Uh HB2).size))
set_option maxRecDepth 100000 in
set_option maxHeartbeats 16000000 in
theorem rdec_zZ (a b:Option Addr) (n c m d:Nat) (x y:List Nat) (k:Nat) (w:World) (hx:Sl w a n c x) (hy:Sl w b m d y) (ox:Ok x) (oy:Ok y) (hm:MayR true x y = true) (hk:k ≤ 1000) (hz:k = 0) (hT:Tab64 w) (hN0:rdQ (val x * 10 ^ k) (val y) = 0) :
  Calls Tryz.prog 17 #[ratV true a n c b m d,.int .i64 (k:Nat)] w fun e w' => DcPost true x y (k:Nat) w e w':=by
 have bx:=Box.made w true a n c b m d
 obtain ⟨wa,hwa⟩:∃ wa,ratBox w true a n c b m d = wa:=⟨_,rfl⟩
 rw [hwa] at bx
 unfold ratBox at hwa
 have hba:=bx.bel
 have p0:=bx.d0
 have p1:=bx.d1
 have p2:=bx.d2
 obtain ⟨kx,ky,ey,_,_⟩:=MayR.parts hm
 have KM:=ratMay_any true a b n c m d x y wa (hx.below hba) (hy.below hba) ox oy (hT.below hba)
 rw [hm] at KM
 have KP:=fun (W:World) (hb:Below wa.heap.size wa W) => roundToPlaces_any true a b n c m d x y k W ((hx.below hba).below hb) ((hy.below hba).below hb) ox oy kx ky ey hk
 unfold ratV at KM KP ⊢
 have HKM:=Hj KM
 have HKP:=Hj KP
 have HM:=Hj hm
 have HBa:=Hj hba
 have HZ:=Hj hz
 have tk1:¬ (k:Int) < 0:=by omega
 have tk2:¬ (1000:Int) < (k:Int):=by omega
 have tk3:decide ((k:Int) < 0) = false:=decide_eq_false tk1
 have tk4:decide ((1000:Int) < (k:Int)) = false:=decide_eq_false tk2
 have tz:((k:Int) == 0) = true:=by simp [hz]
 have HN0:=Hj hN0
 clear hN0
 clear KM KP hx hy bx hba hm kx ky ey hz hT
 go_enter Tryz.func17,Tryz.ntmps17
 go_wp2_with fail
 refine (Uh HKM).mono ?_
 rintro _ w1 ⟨rfl,b1⟩
 have f0:=(ck b1 p0); have f1:=(ck b1 p1); have f2:=(ck b1 p2)
 have HB1:=Hj b1
 clear b1 HKM p0 p1 p2
 go_wp2_with fail
 refine (Uh HKP _ (Uh HB1)).mono ?_
 rintro _ w2 ⟨aA,mA,cA,aB,mB,cB,A,Bv,rfl,⟨sA,sB⟩,⟨hNe,hBl⟩,⟨kA,kB⟩,b2⟩
 have h0:=(ck b2 f0); have h1:=(ck b2 f1); have h2:=(ck b2 f2)
 have HB2:=Hj ((Uh HB1).trans (b2.mono (Uh HB1).size))
 obtain ⟨hA1,hB1⟩:=split_num hNe hBl
 have hzA:=limbs_pos sA.len
 have hzB:=limbs_pos sB.len
 have hLA:mA ≤ 2048:=by have:=MayL.len kA; have:=sA.len; omega
 have hLB:mB ≤ 2048:=by have:=MayL.len kB; have:=sB.len; omega
 have hpU:0 < 10 ^ k:=Nat.pow_pos (by decide)
 have hNz:A * 10 ^ k + Bv = 0:=hNe.trans (Uh HN0)
 obtain rfl:Bv = 0:=by omega
 have hA0:A = 0:=by rcases Nat.eq_zero_or_pos A with e | e; exact e; have:=Nat.mul_pos e hpU; omega
 obtain rfl:mA = 0:=by omega
 obtain rfl:mB = 0:=by omega
 clear hNz
 have HKA:=Hj (fun (W:World) (hb:Below w2.heap.size w2 W) => digits_any aA 0 cA (limbs A) W (sA.below hb) (limbs_ok _) kA)
 have HKB:=Hj (fun (W:World) (hb:Below w2.heap.size w2 W) => digits_any aB 0 cB (limbs 0) W (sB.below hb) (limbs_ok _) kB)
 rw [limbs_v] at HKA HKB
 have HNe:=Hj (And.intro hA1 (And.intro hB1 hBl))
 have HkA:=Hj (And.intro kA kB)
 clear sA sB hNe hBl kA kB b2 hA1 hB1 hzA hzB HKP HB1 f0 f1 f2 hpU
 go_wp2_with fail
 refine (ratMinusS_any false w2).mono ?_
 rintro _ _ ⟨rfl,hw⟩
 obtain rfl:=hw.symm
 clear hw
 have l3:=mnB_size false
 obtain ⟨MB,hMB⟩:∃ x,mnB false = x:=⟨_,rfl⟩
 rw [hMB] at l3 ⊢
 have HMB:=Hj hMB
 clear hMB
 go_wp2_with fail
 refine (Uh HKA _ (Below.refl _ _)).mono ?_
 rintro _ w3 ⟨LA,hTA,rfl,b3⟩
 have l1:=txt_len (limbs_ok A) (Uh HkA).1 (by rw [limbs_v]; exact hTA)
 rw [limbs_v] at l1
 obtain ⟨SA,hSA⟩:∃ x,strB (txtL A 10 LA) = x:=⟨_,rfl⟩
 rw [hSA] at l1 ⊢
 have HA:=Hj (And.intro hSA hTA)
 have HB3:=Hj b3
 clear hSA hTA b3 HKA
 have HX:=Hj (fun (t:ByteArray) (ht:t = mnB false ++ (SA ++ dotB (rdQ (val x * 10 ^ k) (val y)) k)) => (show DcR true x y (k:Nat) t 0 by rw [ht,← (Uh HA).1]; have:=DcR.text (g:=true) (x:=x) (y:=y) (pl:=(k:Nat)) k LA _ (Uh HM) rfl hk rfl (by rw [(Uh HNe).1]; exact (Uh HA).2); rw [(Uh HNe).1,show (true && decide (rdQ (val x * 10 ^ k) (val y) ≠ 0)) = false by simp; exact Uh HN0] at this; exact this))
 rw [dotB_zero _ (Uh HZ),Uh HMB] at HX
 go_wp2_with fail
 go_ret2
 refine ⟨_,_,rfl,Uh HX _ ?_,?_⟩
 ·show MB ++ SA = MB ++ (SA ++ ⟨#[]⟩)
  rw [show SA ++ (⟨#[]⟩:ByteArray) = SA from ByteArray.append_empty]
 ·exact ((Uh HBa).trans ((Uh HB2).mono (Uh HBa).size)).trans ((Uh HB3).mono (Nat.le_trans (Uh HBa).size (Uh HB2).size))
set_option maxRecDepth 100000 in
set_option maxHeartbeats 16000000 in
theorem rdec_zP (a b:Option Addr) (n c m d:Nat) (x y:List Nat) (k:Nat) (w:World) (hx:Sl w a n c x) (hy:Sl w b m d y) (ox:Ok x) (oy:Ok y) (hm:MayR true x y = true) (hk:k ≤ 1000) (hz:k = 0) (hT:Tab64 w) (hN0:rdQ (val x * 10 ^ k) (val y) ≠ 0) :
  Calls Tryz.prog 17 #[ratV true a n c b m d,.int .i64 (k:Nat)] w fun e w' => DcPost true x y (k:Nat) w e w':=by
 have bx:=Box.made w true a n c b m d
 obtain ⟨wa,hwa⟩:∃ wa,ratBox w true a n c b m d = wa:=⟨_,rfl⟩
 rw [hwa] at bx
 unfold ratBox at hwa
 have hba:=bx.bel
 have p0:=bx.d0
 have p1:=bx.d1
 have p2:=bx.d2
 obtain ⟨kx,ky,ey,_,_⟩:=MayR.parts hm
 have KM:=ratMay_any true a b n c m d x y wa (hx.below hba) (hy.below hba) ox oy (hT.below hba)
 rw [hm] at KM
 have KP:=fun (W:World) (hb:Below wa.heap.size wa W) => roundToPlaces_any true a b n c m d x y k W ((hx.below hba).below hb) ((hy.below hba).below hb) ox oy kx ky ey hk
 unfold ratV at KM KP ⊢
 have HKM:=Hj KM
 have HKP:=Hj KP
 have HM:=Hj hm
 have HBa:=Hj hba
 have HZ:=Hj hz
 have tk1:¬ (k:Int) < 0:=by omega
 have tk2:¬ (1000:Int) < (k:Int):=by omega
 have tk3:decide ((k:Int) < 0) = false:=decide_eq_false tk1
 have tk4:decide ((1000:Int) < (k:Int)) = false:=decide_eq_false tk2
 have tz:((k:Int) == 0) = true:=by simp [hz]
 have HN0:=Hj hN0
 clear hN0
 clear KM KP hx hy bx hba hm kx ky ey hz hT
 go_enter Tryz.func17,Tryz.ntmps17
 go_wp2_with fail
 refine (Uh HKM).mono ?_
 rintro _ w1 ⟨rfl,b1⟩
 have f0:=(ck b1 p0); have f1:=(ck b1 p1); have f2:=(ck b1 p2)
 have HB1:=Hj b1
 clear b1 HKM p0 p1 p2
 go_wp2_with fail
 refine (Uh HKP _ (Uh HB1)).mono ?_
 rintro _ w2 ⟨aA,mA,cA,aB,mB,cB,A,Bv,rfl,⟨sA,sB⟩,⟨hNe,hBl⟩,⟨kA,kB⟩,b2⟩
 have h0:=(ck b2 f0); have h1:=(ck b2 f1); have h2:=(ck b2 f2)
 have HB2:=Hj ((Uh HB1).trans (b2.mono (Uh HB1).size))
 obtain ⟨hA1,hB1⟩:=split_num hNe hBl
 have hzA:=limbs_pos sA.len
 have hzB:=limbs_pos sB.len
 have hLA:mA ≤ 2048:=by have:=MayL.len kA; have:=sA.len; omega
 have hLB:mB ≤ 2048:=by have:=MayL.len kB; have:=sB.len; omega
 have hpU:0 < 10 ^ k:=Nat.pow_pos (by decide)
 have hpos:0 < mA + mB:=by
  rcases Nat.eq_zero_or_pos (mA + mB) with e | e
  ·exfalso
   have e1:A = 0:=by rcases Nat.eq_zero_or_pos A with g | g; exact g; have:=hzA.2 (by omega); omega
   have e2:Bv = 0:=by rcases Nat.eq_zero_or_pos Bv with g | g; exact g; have:=hzB.2 (by omega); omega
   rw [e1,e2] at hNe; exact Uh HN0 (by rw [← hNe]; simp)
  ·exact e
 have tp:(0:Int) < (mA:Int) + (mB:Int):=by omega
 clear hpos
 have HKA:=Hj (fun (W:World) (hb:Below w2.heap.size w2 W) => digits_any aA mA cA (limbs A) W (sA.below hb) (limbs_ok _) kA)
 have HKB:=Hj (fun (W:World) (hb:Below w2.heap.size w2 W) => digits_any aB mB cB (limbs Bv) W (sB.below hb) (limbs_ok _) kB)
 rw [limbs_v] at HKA HKB
 have HNe:=Hj (And.intro hA1 (And.intro hB1 hBl))
 have HkA:=Hj (And.intro kA kB)
 clear sA sB hNe hBl kA kB b2 hA1 hB1 hzA hzB HKP HB1 f0 f1 f2 hpU
 go_wp2_with fail
 refine (ratMinusS_any true w2).mono ?_
 rintro _ _ ⟨rfl,hw⟩
 obtain rfl:=hw.symm
 clear hw
 have l3:=mnB_size true
 obtain ⟨MB,hMB⟩:∃ x,mnB true = x:=⟨_,rfl⟩
 rw [hMB] at l3 ⊢
 have HMB:=Hj hMB
 clear hMB
 go_wp2_with fail
 refine (Uh HKA _ (Below.refl _ _)).mono ?_
 rintro _ w3 ⟨LA,hTA,rfl,b3⟩
 have l1:=txt_len (limbs_ok A) (Uh HkA).1 (by rw [limbs_v]; exact hTA)
 rw [limbs_v] at l1
 obtain ⟨SA,hSA⟩:∃ x,strB (txtL A 10 LA) = x:=⟨_,rfl⟩
 rw [hSA] at l1 ⊢
 have HA:=Hj (And.intro hSA hTA)
 have HB3:=Hj b3
 clear hSA hTA b3 HKA
 have HX:=Hj (fun (t:ByteArray) (ht:t = mnB true ++ (SA ++ dotB (rdQ (val x * 10 ^ k) (val y)) k)) => (show DcR true x y (k:Nat) t 0 by rw [ht,← (Uh HA).1]; have:=DcR.text (g:=true) (x:=x) (y:=y) (pl:=(k:Nat)) k LA _ (Uh HM) rfl hk rfl (by rw [(Uh HNe).1]; exact (Uh HA).2); rw [(Uh HNe).1,show (true && decide (rdQ (val x * 10 ^ k) (val y) ≠ 0)) = true by simp; exact Uh HN0] at this; exact this))
 rw [dotB_zero _ (Uh HZ),Uh HMB] at HX
 go_wp2_with fail
 go_ret2
 refine ⟨_,_,rfl,Uh HX _ ?_,?_⟩
 ·show MB ++ SA = MB ++ (SA ++ ⟨#[]⟩)
  rw [show SA ++ (⟨#[]⟩:ByteArray) = SA from ByteArray.append_empty]
 ·exact ((Uh HBa).trans ((Uh HB2).mono (Uh HBa).size)).trans ((Uh HB3).mono (Nat.le_trans (Uh HBa).size (Uh HB2).size))
set_option maxRecDepth 100000 in
set_option maxHeartbeats 16000000 in
theorem rdec_nF (a b:Option Addr) (n c m d:Nat) (x y:List Nat) (k:Nat) (w:World) (hx:Sl w a n c x) (hy:Sl w b m d y) (ox:Ok x) (oy:Ok y) (hm:MayR false x y = true) (hk:k ≤ 1000) (hz:k ≠ 0) (hT:Tab64 w) (hR:Rep0) :
  Calls Tryz.prog 17 #[ratV false a n c b m d,.int .i64 (k:Nat)] w fun e w' => DcPost false x y (k:Nat) w e w':=by
 have bx:=Box.made w false a n c b m d
 obtain ⟨wa,hwa⟩:∃ wa,ratBox w false a n c b m d = wa:=⟨_,rfl⟩
 rw [hwa] at bx
 unfold ratBox at hwa
 have hba:=bx.bel
 have p0:=bx.d0
 have p1:=bx.d1
 have p2:=bx.d2
 obtain ⟨kx,ky,ey,_,_⟩:=MayR.parts hm
 have KM:=ratMay_any false a b n c m d x y wa (hx.below hba) (hy.below hba) ox oy (hT.below hba)
 rw [hm] at KM
 have KP:=fun (W:World) (hb:Below wa.heap.size wa W) => roundToPlaces_any false a b n c m d x y k W ((hx.below hba).below hb) ((hy.below hba).below hb) ox oy kx ky ey hk
 unfold ratV at KM KP ⊢
 have HKM:=Hj KM
 have HKP:=Hj KP
 have HM:=Hj hm
 have HBa:=Hj hba
 have HZ:=Hj hz
 have tk1:¬ (k:Int) < 0:=by omega
 have tk2:¬ (1000:Int) < (k:Int):=by omega
 have tk3:decide ((k:Int) < 0) = false:=decide_eq_false tk1
 have tk4:decide ((1000:Int) < (k:Int)) = false:=decide_eq_false tk2
 have tz:((k:Int) == 0) = false:=by simp; omega
 have tz2:¬ (k:Int) = 0:=by omega
 clear KM KP hx hy bx hba hm kx ky ey hz hT
 go_enter Tryz.func17,Tryz.ntmps17
 go_wp2_with fail
 refine (Uh HKM).mono ?_
 rintro _ w1 ⟨rfl,b1⟩
 have f0:=(ck b1 p0); have f1:=(ck b1 p1); have f2:=(ck b1 p2)
 have HB1:=Hj b1
 clear b1 HKM p0 p1 p2
 go_wp2_with fail
 refine (Uh HKP _ (Uh HB1)).mono ?_
 rintro _ w2 ⟨aA,mA,cA,aB,mB,cB,A,Bv,rfl,⟨sA,sB⟩,⟨hNe,hBl⟩,⟨kA,kB⟩,b2⟩
 have h0:=(ck b2 f0); have h1:=(ck b2 f1); have h2:=(ck b2 f2)
 have HB2:=Hj ((Uh HB1).trans (b2.mono (Uh HB1).size))
 obtain ⟨hA1,hB1⟩:=split_num hNe hBl
 have hzA:=limbs_pos sA.len
 have hzB:=limbs_pos sB.len
 have hLA:mA ≤ 2048:=by have:=MayL.len kA; have:=sA.len; omega
 have hLB:mB ≤ 2048:=by have:=MayL.len kB; have:=sB.len; omega
 have hpU:0 < 10 ^ k:=Nat.pow_pos (by decide)
 have HKA:=Hj (fun (W:World) (hb:Below w2.heap.size w2 W) => digits_any aA mA cA (limbs A) W (sA.below hb) (limbs_ok _) kA)
 have HKB:=Hj (fun (W:World) (hb:Below w2.heap.size w2 W) => digits_any aB mB cB (limbs Bv) W (sB.below hb) (limbs_ok _) kB)
 rw [limbs_v] at HKA HKB
 have HNe:=Hj (And.intro hA1 (And.intro hB1 hBl))
 have HkA:=Hj (And.intro kA kB)
 clear sA sB hNe hBl kA kB b2 hA1 hB1 hzA hzB HKP HB1 f0 f1 f2 hpU
 go_wp2_with fail
 refine (ratMinusS_any false w2).mono ?_
 rintro _ _ ⟨rfl,hw⟩
 obtain rfl:=hw.symm
 clear hw
 have l3:=mnB_size false
 obtain ⟨MB,hMB⟩:∃ x,mnB false = x:=⟨_,rfl⟩
 rw [hMB] at l3 ⊢
 have HMB:=Hj hMB
 clear hMB
 go_wp2_with fail
 refine (Uh HKA _ (Below.refl _ _)).mono ?_
 rintro _ w3 ⟨LA,hTA,rfl,b3⟩
 have l1:=txt_len (limbs_ok A) (Uh HkA).1 (by rw [limbs_v]; exact hTA)
 rw [limbs_v] at l1
 obtain ⟨SA,hSA⟩:∃ x,strB (txtL A 10 LA) = x:=⟨_,rfl⟩
 rw [hSA] at l1 ⊢
 have HA:=Hj (And.intro hSA hTA)
 have HB3:=Hj b3
 clear hSA hTA b3 HKA
 have HX:=Hj (fun (t:ByteArray) (ht:t = mnB false ++ (SA ++ dotB (rdQ (val x * 10 ^ k) (val y)) k)) => (show DcR false x y (k:Nat) t 0 by rw [ht,← (Uh HA).1]; have:=DcR.text (g:=false) (x:=x) (y:=y) (pl:=(k:Nat)) k LA _ (Uh HM) rfl hk rfl (by rw [(Uh HNe).1]; exact (Uh HA).2); rw [(Uh HNe).1,show (false && decide (rdQ (val x * 10 ^ k) (val y) ≠ 0)) = false by rfl] at this; exact this))
 rw [dotB_pos _ (Uh HZ),Uh HMB,(Uh HNe).2.1] at HX
 go_wp2_with fail
 refine (Uh HKB _ (Uh HB3)).mono ?_
 rintro _ w4 ⟨LB,hTB,rfl,b4⟩
 have hdt:=dec_text (Uh HNe).2.2 (Uh HZ) hTB
 have hLk:=hdt.1
 have hsz:(strB (txtL Bv 10 LB)).size = LB:=by rw [strB_len,txtL_len]
 obtain ⟨SB,hSB⟩:∃ x,strB (txtL Bv 10 LB) = x:=⟨_,rfl⟩
 rw [hSB] at hsz hdt ⊢
 have HD:=Hj hdt.2
 have HB4:=Hj ((Uh HB3).trans (b4.mono (Uh HB3).size))
 have HKR:=Hj (hR (k - LB) w4 (by omega))
 have hkl:(k:Int) - (LB:Int) = ((k - LB:Nat):Int):=by omega
 have hrs:(strB (List.replicate (k - LB) 48)).size = k - LB:=by rw [strB_len,List.length_replicate]
 have hkb:k - LB ≤ 1000:=by omega
 generalize k - LB = cn at *
 clear hdt hSB b4 HKB hTB
 go_wp2_with fail
 refine (Uh HKR).mono ?_
 rintro _ w5 ⟨rfl,b5⟩
 have HB5:=Hj b5
 clear b5 HKR
 obtain ⟨SR,hSR⟩:∃ x,strB (List.replicate cn 48) = x:=⟨_,rfl⟩
 rw [hSR] at hrs HD ⊢
 clear hSR
 go_wp2_with fail
 go_ret2
 refine ⟨_,_,rfl,Uh HX _ ?_,?_⟩
 ·rw [← Uh HD]
  simp only [ByteArray.append_assoc]
 ·have z4:=(Uh HB4).size
  exact (((Uh HBa).trans ((Uh HB2).mono (Uh HBa).size)).trans ((Uh HB4).mono (Nat.le_trans (Uh HBa).size (Uh HB2).size))).trans ((Uh HB5).mono (Nat.le_trans (Nat.le_trans (Uh HBa).size (Uh HB2).size) z4))
set_option maxRecDepth 100000 in
set_option maxHeartbeats 16000000 in
theorem rdec_nZ (a b:Option Addr) (n c m d:Nat) (x y:List Nat) (k:Nat) (w:World) (hx:Sl w a n c x) (hy:Sl w b m d y) (ox:Ok x) (oy:Ok y) (hm:MayR true x y = true) (hk:k ≤ 1000) (hz:k ≠ 0) (hT:Tab64 w) (hN0:rdQ (val x * 10 ^ k) (val y) = 0) (hR:Rep0) :
  Calls Tryz.prog 17 #[ratV true a n c b m d,.int .i64 (k:Nat)] w fun e w' => DcPost true x y (k:Nat) w e w':=by
 have bx:=Box.made w true a n c b m d
 obtain ⟨wa,hwa⟩:∃ wa,ratBox w true a n c b m d = wa:=⟨_,rfl⟩
 rw [hwa] at bx
 unfold ratBox at hwa
 have hba:=bx.bel
 have p0:=bx.d0
 have p1:=bx.d1
 have p2:=bx.d2
 obtain ⟨kx,ky,ey,_,_⟩:=MayR.parts hm
 have KM:=ratMay_any true a b n c m d x y wa (hx.below hba) (hy.below hba) ox oy (hT.below hba)
 rw [hm] at KM
 have KP:=fun (W:World) (hb:Below wa.heap.size wa W) => roundToPlaces_any true a b n c m d x y k W ((hx.below hba).below hb) ((hy.below hba).below hb) ox oy kx ky ey hk
 unfold ratV at KM KP ⊢
 have HKM:=Hj KM
 have HKP:=Hj KP
 have HM:=Hj hm
 have HBa:=Hj hba
 have HZ:=Hj hz
 have tk1:¬ (k:Int) < 0:=by omega
 have tk2:¬ (1000:Int) < (k:Int):=by omega
 have tk3:decide ((k:Int) < 0) = false:=decide_eq_false tk1
 have tk4:decide ((1000:Int) < (k:Int)) = false:=decide_eq_false tk2
 have tz:((k:Int) == 0) = false:=by simp; omega
 have tz2:¬ (k:Int) = 0:=by omega
 have HN0:=Hj hN0
 clear hN0
 clear KM KP hx hy bx hba hm kx ky ey hz hT
 go_enter Tryz.func17,Tryz.ntmps17
 go_wp2_with fail
 refine (Uh HKM).mono ?_
 rintro _ w1 ⟨rfl,b1⟩
 have f0:=(ck b1 p0); have f1:=(ck b1 p1); have f2:=(ck b1 p2)
 have HB1:=Hj b1
 clear b1 HKM p0 p1 p2
 go_wp2_with fail
 refine (Uh HKP _ (Uh HB1)).mono ?_
 rintro _ w2 ⟨aA,mA,cA,aB,mB,cB,A,Bv,rfl,⟨sA,sB⟩,⟨hNe,hBl⟩,⟨kA,kB⟩,b2⟩
 have h0:=(ck b2 f0); have h1:=(ck b2 f1); have h2:=(ck b2 f2)
 have HB2:=Hj ((Uh HB1).trans (b2.mono (Uh HB1).size))
 obtain ⟨hA1,hB1⟩:=split_num hNe hBl
 have hzA:=limbs_pos sA.len
 have hzB:=limbs_pos sB.len
 have hLA:mA ≤ 2048:=by have:=MayL.len kA; have:=sA.len; omega
 have hLB:mB ≤ 2048:=by have:=MayL.len kB; have:=sB.len; omega
 have hpU:0 < 10 ^ k:=Nat.pow_pos (by decide)
 have hNz:A * 10 ^ k + Bv = 0:=hNe.trans (Uh HN0)
 obtain rfl:Bv = 0:=by omega
 have hA0:A = 0:=by rcases Nat.eq_zero_or_pos A with e | e; exact e; have:=Nat.mul_pos e hpU; omega
 obtain rfl:mA = 0:=by omega
 obtain rfl:mB = 0:=by omega
 clear hNz
 have HKA:=Hj (fun (W:World) (hb:Below w2.heap.size w2 W) => digits_any aA 0 cA (limbs A) W (sA.below hb) (limbs_ok _) kA)
 have HKB:=Hj (fun (W:World) (hb:Below w2.heap.size w2 W) => digits_any aB 0 cB (limbs 0) W (sB.below hb) (limbs_ok _) kB)
 rw [limbs_v] at HKA HKB
 have HNe:=Hj (And.intro hA1 (And.intro hB1 hBl))
 have HkA:=Hj (And.intro kA kB)
 clear sA sB hNe hBl kA kB b2 hA1 hB1 hzA hzB HKP HB1 f0 f1 f2 hpU
 go_wp2_with fail
 refine (ratMinusS_any false w2).mono ?_
 rintro _ _ ⟨rfl,hw⟩
 obtain rfl:=hw.symm
 clear hw
 have l3:=mnB_size false
 obtain ⟨MB,hMB⟩:∃ x,mnB false = x:=⟨_,rfl⟩
 rw [hMB] at l3 ⊢
 have HMB:=Hj hMB
 clear hMB
 go_wp2_with fail
 refine (Uh HKA _ (Below.refl _ _)).mono ?_
 rintro _ w3 ⟨LA,hTA,rfl,b3⟩
 have l1:=txt_len (limbs_ok A) (Uh HkA).1 (by rw [limbs_v]; exact hTA)
 rw [limbs_v] at l1
 obtain ⟨SA,hSA⟩:∃ x,strB (txtL A 10 LA) = x:=⟨_,rfl⟩
 rw [hSA] at l1 ⊢
 have HA:=Hj (And.intro hSA hTA)
 have HB3:=Hj b3
 clear hSA hTA b3 HKA
 have HX:=Hj (fun (t:ByteArray) (ht:t = mnB false ++ (SA ++ dotB (rdQ (val x * 10 ^ k) (val y)) k)) => (show DcR true x y (k:Nat) t 0 by rw [ht,← (Uh HA).1]; have:=DcR.text (g:=true) (x:=x) (y:=y) (pl:=(k:Nat)) k LA _ (Uh HM) rfl hk rfl (by rw [(Uh HNe).1]; exact (Uh HA).2); rw [(Uh HNe).1,show (true && decide (rdQ (val x * 10 ^ k) (val y) ≠ 0)) = false by simp; exact Uh HN0] at this; exact this))
 rw [dotB_pos _ (Uh HZ),Uh HMB,(Uh HNe).2.1] at HX
 go_wp2_with fail
 refine (Uh HKB _ (Uh HB3)).mono ?_
 rintro _ w4 ⟨LB,hTB,rfl,b4⟩
 have hdt:=dec_text (Uh HNe).2.2 (Uh HZ) hTB
 have hLk:=hdt.1
 have hsz:(strB (txtL 0 10 LB)).size = LB:=by rw [strB_len,txtL_len]
 obtain ⟨SB,hSB⟩:∃ x,strB (txtL 0 10 LB) = x:=⟨_,rfl⟩
 rw [hSB] at hsz hdt ⊢
 have HD:=Hj hdt.2
 have HB4:=Hj ((Uh HB3).trans (b4.mono (Uh HB3).size))
 have HKR:=Hj (hR (k - LB) w4 (by omega))
 have hkl:(k:Int) - (LB:Int) = ((k - LB:Nat):Int):=by omega
 have hrs:(strB (List.replicate (k - LB) 48)).size = k - LB:=by rw [strB_len,List.length_replicate]
 have hkb:k - LB ≤ 1000:=by omega
 generalize k - LB = cn at *
 clear hdt hSB b4 HKB hTB
 go_wp2_with fail
 refine (Uh HKR).mono ?_
 rintro _ w5 ⟨rfl,b5⟩
 have HB5:=Hj b5
 clear b5 HKR
 obtain ⟨SR,hSR⟩:∃ x,strB (List.replicate cn 48) = x:=⟨_,rfl⟩
 rw [hSR] at hrs HD ⊢
 clear hSR
 go_wp2_with fail
 go_ret2
 refine ⟨_,_,rfl,Uh HX _ ?_,?_⟩
 ·rw [← Uh HD]
  simp only [ByteArray.append_assoc]
 ·have z4:=(Uh HB4).size
  exact (((Uh HBa).trans ((Uh HB2).mono (Uh HBa).size)).trans ((Uh HB4).mono (Nat.le_trans (Uh HBa).size (Uh HB2).size))).trans ((Uh HB5).mono (Nat.le_trans (Nat.le_trans (Uh HBa).size (Uh HB2).size) z4))
set_option maxRecDepth 100000 in
set_option maxHeartbeats 16000000 in
theorem rdec_nP (a b:Option Addr) (n c m d:Nat) (x y:List Nat) (k:Nat) (w:World) (hx:Sl w a n c x) (hy:Sl w b m d y) (ox:Ok x) (oy:Ok y) (hm:MayR true x y = true) (hk:k ≤ 1000) (hz:k ≠ 0) (hT:Tab64 w) (hN0:rdQ (val x * 10 ^ k) (val y) ≠ 0) (hR:Rep0) :
  Calls Tryz.prog 17 #[ratV true a n c b m d,.int .i64 (k:Nat)] w fun e w' => DcPost true x y (k:Nat) w e w':=by
 have bx:=Box.made w true a n c b m d
 obtain ⟨wa,hwa⟩:∃ wa,ratBox w true a n c b m d = wa:=⟨_,rfl⟩
 rw [hwa] at bx
 unfold ratBox at hwa
 have hba:=bx.bel
 have p0:=bx.d0
 have p1:=bx.d1
 have p2:=bx.d2
 obtain ⟨kx,ky,ey,_,_⟩:=MayR.parts hm
 have KM:=ratMay_any true a b n c m d x y wa (hx.below hba) (hy.below hba) ox oy (hT.below hba)
 rw [hm] at KM
 have KP:=fun (W:World) (hb:Below wa.heap.size wa W) => roundToPlaces_any true a b n c m d x y k W ((hx.below hba).below hb) ((hy.below hba).below hb) ox oy kx ky ey hk
 unfold ratV at KM KP ⊢
 have HKM:=Hj KM
 have HKP:=Hj KP
 have HM:=Hj hm
 have HBa:=Hj hba
 have HZ:=Hj hz
 have tk1:¬ (k:Int) < 0:=by omega
 have tk2:¬ (1000:Int) < (k:Int):=by omega
 have tk3:decide ((k:Int) < 0) = false:=decide_eq_false tk1
 have tk4:decide ((1000:Int) < (k:Int)) = false:=decide_eq_false tk2
 have tz:((k:Int) == 0) = false:=by simp; omega
 have tz2:¬ (k:Int) = 0:=by omega
 have HN0:=Hj hN0
 clear hN0
 clear KM KP hx hy bx hba hm kx ky ey hz hT
 go_enter Tryz.func17,Tryz.ntmps17
 go_wp2_with fail
 refine (Uh HKM).mono ?_
 rintro _ w1 ⟨rfl,b1⟩
 have f0:=(ck b1 p0); have f1:=(ck b1 p1); have f2:=(ck b1 p2)
 have HB1:=Hj b1
 clear b1 HKM p0 p1 p2
 go_wp2_with fail
 refine (Uh HKP _ (Uh HB1)).mono ?_
 rintro _ w2 ⟨aA,mA,cA,aB,mB,cB,A,Bv,rfl,⟨sA,sB⟩,⟨hNe,hBl⟩,⟨kA,kB⟩,b2⟩
 have h0:=(ck b2 f0); have h1:=(ck b2 f1); have h2:=(ck b2 f2)
 have HB2:=Hj ((Uh HB1).trans (b2.mono (Uh HB1).size))
 obtain ⟨hA1,hB1⟩:=split_num hNe hBl
 have hzA:=limbs_pos sA.len
 have hzB:=limbs_pos sB.len
 have hLA:mA ≤ 2048:=by have:=MayL.len kA; have:=sA.len; omega
 have hLB:mB ≤ 2048:=by have:=MayL.len kB; have:=sB.len; omega
 have hpU:0 < 10 ^ k:=Nat.pow_pos (by decide)
 have hpos:0 < mA + mB:=by
  rcases Nat.eq_zero_or_pos (mA + mB) with e | e
  ·exfalso
   have e1:A = 0:=by rcases Nat.eq_zero_or_pos A with g | g; exact g; have:=hzA.2 (by omega); omega
   have e2:Bv = 0:=by rcases Nat.eq_zero_or_pos Bv with g | g; exact g; have:=hzB.2 (by omega); omega
   rw [e1,e2] at hNe; exact Uh HN0 (by rw [← hNe]; simp)
  ·exact e
 have tp:(0:Int) < (mA:Int) + (mB:Int):=by omega
 clear hpos
 have HKA:=Hj (fun (W:World) (hb:Below w2.heap.size w2 W) => digits_any aA mA cA (limbs A) W (sA.below hb) (limbs_ok _) kA)
 have HKB:=Hj (fun (W:World) (hb:Below w2.heap.size w2 W) => digits_any aB mB cB (limbs Bv) W (sB.below hb) (limbs_ok _) kB)
 rw [limbs_v] at HKA HKB
 have HNe:=Hj (And.intro hA1 (And.intro hB1 hBl))
 have HkA:=Hj (And.intro kA kB)
 clear sA sB hNe hBl kA kB b2 hA1 hB1 hzA hzB HKP HB1 f0 f1 f2 hpU
 go_wp2_with fail
 refine (ratMinusS_any true w2).mono ?_
 rintro _ _ ⟨rfl,hw⟩
 obtain rfl:=hw.symm
 clear hw
 have l3:=mnB_size true
 obtain ⟨MB,hMB⟩:∃ x,mnB true = x:=⟨_,rfl⟩
 rw [hMB] at l3 ⊢
 have HMB:=Hj hMB
 clear hMB
 go_wp2_with fail
 refine (Uh HKA _ (Below.refl _ _)).mono ?_
 rintro _ w3 ⟨LA,hTA,rfl,b3⟩
 have l1:=txt_len (limbs_ok A) (Uh HkA).1 (by rw [limbs_v]; exact hTA)
 rw [limbs_v] at l1
 obtain ⟨SA,hSA⟩:∃ x,strB (txtL A 10 LA) = x:=⟨_,rfl⟩
 rw [hSA] at l1 ⊢
 have HA:=Hj (And.intro hSA hTA)
 have HB3:=Hj b3
 clear hSA hTA b3 HKA
 have HX:=Hj (fun (t:ByteArray) (ht:t = mnB true ++ (SA ++ dotB (rdQ (val x * 10 ^ k) (val y)) k)) => (show DcR true x y (k:Nat) t 0 by rw [ht,← (Uh HA).1]; have:=DcR.text (g:=true) (x:=x) (y:=y) (pl:=(k:Nat)) k LA _ (Uh HM) rfl hk rfl (by rw [(Uh HNe).1]; exact (Uh HA).2); rw [(Uh HNe).1,show (true && decide (rdQ (val x * 10 ^ k) (val y) ≠ 0)) = true by simp; exact Uh HN0] at this; exact this))
 rw [dotB_pos _ (Uh HZ),Uh HMB,(Uh HNe).2.1] at HX
 go_wp2_with fail
 refine (Uh HKB _ (Uh HB3)).mono ?_
 rintro _ w4 ⟨LB,hTB,rfl,b4⟩
 have hdt:=dec_text (Uh HNe).2.2 (Uh HZ) hTB
 have hLk:=hdt.1
 have hsz:(strB (txtL Bv 10 LB)).size = LB:=by rw [strB_len,txtL_len]
 obtain ⟨SB,hSB⟩:∃ x,strB (txtL Bv 10 LB) = x:=⟨_,rfl⟩
 rw [hSB] at hsz hdt ⊢
 have HD:=Hj hdt.2
 have HB4:=Hj ((Uh HB3).trans (b4.mono (Uh HB3).size))
 have HKR:=Hj (hR (k - LB) w4 (by omega))
 have hkl:(k:Int) - (LB:Int) = ((k - LB:Nat):Int):=by omega
 have hrs:(strB (List.replicate (k - LB) 48)).size = k - LB:=by rw [strB_len,List.length_replicate]
 have hkb:k - LB ≤ 1000:=by omega
 generalize k - LB = cn at *
 clear hdt hSB b4 HKB hTB
 go_wp2_with fail
 refine (Uh HKR).mono ?_
 rintro _ w5 ⟨rfl,b5⟩
 have HB5:=Hj b5
 clear b5 HKR
 obtain ⟨SR,hSR⟩:∃ x,strB (List.replicate cn 48) = x:=⟨_,rfl⟩
 rw [hSR] at hrs HD ⊢
 clear hSR
 go_wp2_with fail
 go_ret2
 refine ⟨_,_,rfl,Uh HX _ ?_,?_⟩
 ·rw [← Uh HD]
  simp only [ByteArray.append_assoc]
 ·have z4:=(Uh HB4).size
  exact (((Uh HBa).trans ((Uh HB2).mono (Uh HBa).size)).trans ((Uh HB4).mono (Nat.le_trans (Uh HBa).size (Uh HB2).size))).trans ((Uh HB5).mono (Nat.le_trans (Nat.le_trans (Uh HBa).size (Uh HB2).size) z4))
end Go.Proofs.YtmnlhnmlgncedaaGreatDoor
