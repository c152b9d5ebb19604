/- Rz6 -/
import Derived.Test.YtlolnaegfponeaaGreatDoorRz5
import Derived.Test.YtlolnaegfponeaaGreatDoorWif
namespace Go.Proofs.YtlolnaegfponeaaGreatDoor
open Go.RowKit Go.Deep
set_option linter.unusedVariables false
theorem rdE_up (X Y k:Nat):rdE X Y (k + kB) = rdQ X (Y * 2 ^ k):=by
 unfold rdE
 rw [Nat.pow_add,← Nat.mul_assoc,rd_scale (Nat.two_pow_pos kB)]
theorem rdE_dn {X Y k E:Nat} (h:k + E = kB):rdE X Y E = rdQ (X * 2 ^ k) Y:=by
 unfold rdE
 rw [← h,Nat.pow_add,← Nat.mul_assoc,rd_scale (Nat.two_pow_pos E)]
theorem wscaled_E (a1 a2:Option Addr) (n1 c1 n2 c2:Nat) (x y:List Nat) (E:Nat) (w:World) (h1:Sl w a1 n1 c1 x) (nx:a1 = none → c1 = 0) (h2:Sl w a2 n2 c2 y) (ox:Ok x) (oy:Ok y) (kx:MayL x = true) (ky:MayL y = true) (ey:y ≠ []) (hE:E ≤ 800000) {e:Int} (he:e = (E:Int) - 1074) :
  Calls Tryz.prog 111 #[.slice a1 n1 c1,.slice a2 n2 c2,.int .i64 e] w fun e w' => NewL w w' (rdE (val x) (val y) E) e:=by
 subst he
 have hk:=kB_eq
 by_cases h:1074 ≤ E
 ·obtain ⟨k,rfl⟩:∃ k,E = k + kB:=⟨E - kB,by omega⟩
  rw [rdE_up,show (((k + kB:Nat):Int) - 1074) = (k:Int) by omega]
  exact wscaled_up a1 a2 n1 c1 n2 c2 x y k w h1 nx h2 ox oy kx ky ey (by omega)
 ·obtain ⟨k,hk2⟩:∃ k,k + E = kB:=⟨kB - E,by omega⟩
  rw [rdE_dn hk2,show ((E:Int) - 1074) = -(k:Int) by omega]
  exact wscaled_dn a1 a2 n1 c1 n2 c2 x y k w h1 h2 ox oy kx ky ey (by omega) (by omega)
theorem rdE_len {x y:List Nat} (ox:Ok x) (oy:Ok y) (kx:MayL x = true) (ky:MayL y = true) (ey:y ≠ []) (E:Nat):(limbs (rdE (val x) (val y) E)).length ≤ 10000:=by
 have yp:0 < val y:=Nat.pos_of_ne_zero (val_ne (MayL.norm ky) ey)
 have h1:rdE (val x) (val y) E ≤ val x * 2 ^ kB:=rdQ_le (Nat.mul_pos yp (Nat.two_pow_pos E))
 have h2:=limbs_mono h1
 have h3:=limbs_pow_len (val x) kB
 rw [limbs_val ox (MayL.norm kx)] at h3
 have:=MayL.len kx
 have hk:=kB_eq
 omega
structure FlR (w0 wr:World) (X Y p q E:Nat) (a:Option Addr) (m c:Nat):Prop where
 sq:Sl wr a m c (limbs (rdE X Y E))
 len:m ≤ 10000
 h0:p + kB - (q + 54) ≤ E
 h1:E ≤ flU p q X Y + 1
 h2:E = flU p q X Y + 1 → rdE X Y (flU p q X Y) = 9007199254740992
 bel:Below w0.heap.size w0 wr
theorem flU_le {p q X Y:Nat} (h:p ≤ 65536):flU p q X Y ≤ 70000:=by
 have hk:=kB_eq
 unfold flU flG
 split <;> omega
theorem or_top {v:Nat} (h:v < 9223372036854775808):bits .or .u64 9223372036854775808 (v:Int) = ((9223372036854775808 + v:Nat):Int):=by
 have h1:=u64_or_nat 9223372036854775808 v (by decide) (by omega)
 have h2:9223372036854775808 ||| v = 9223372036854775808 + v:=by
  have:=Nat.two_pow_add_eq_or_of_lt (i:=63) (b:=v) (by omega) 1
  simpa using this.symm
 rw [h2] at h1
 exact h1
theorem or_none {v:Nat} (h:v < 18446744073709551616):bits .or .u64 0 (v:Int) = (v:Int):=by
 have h1:=u64_or_nat 0 v (by decide) h
 rw [Nat.zero_or] at h1
 exact h1
theorem or_unit {u v:Nat} (h:u < 4096) (hv:v < 4503599627370496):bits .or .u64 ((u * 4503599627370496:Nat):Int) (v:Int) = ((u * 4503599627370496 + v:Nat):Int):=by
 have h1:=u64_or_nat (u * 4503599627370496) v (by omega) (by omega)
 have h2:u * 4503599627370496 ||| v = u * 4503599627370496 + v:=by
  have:=Nat.two_pow_add_eq_or_of_lt (i:=52) (b:=v) (by omega) u
  rw [Nat.mul_comm] 
  exact this.symm
 rw [h2] at h1
 exact h1
theorem or3_F {u v:Nat} (h:u < 2047) (hv:v < 4503599627370496):bits .or .u64 (bits .or .u64 0 ((u:Int) * 4503599627370496)) (v:Int) = ((0 + u * 4503599627370496 + v:Nat):Int):=by
 have e:(u:Int) * 4503599627370496 = ((u * 4503599627370496:Nat):Int):=by omega
 rw [e,or_none (by omega),or_unit (by omega) hv,Nat.zero_add]
theorem or3_T {u v:Nat} (h:u < 2047) (hv:v < 4503599627370496):bits .or .u64 (bits .or .u64 9223372036854775808 ((u:Int) * 4503599627370496)) (v:Int) = ((9223372036854775808 + u * 4503599627370496 + v:Nat):Int):=by
 have e:(u:Int) * 4503599627370496 = ((u * 4503599627370496:Nat):Int):=by omega
 have e2:9223372036854775808 + u * 4503599627370496 = (2048 + u) * 4503599627370496:=by omega
 rw [e,or_top (by omega),e2,or_unit (by omega) hv]

set_option maxRecDepth 100000 in
set_option maxHeartbeats 16000000 in
theorem wfloat_FL (a b:Option Addr) (n c m d:Nat) (x y:List Nat) (w:World) (hx:Sl w a n c x) (hy:Sl w b m d y) (ox:Ok x) (oy:Ok y) (nx:a = none → c = 0) (k1:MayR false x y = true) (ex:x ≠ []) (hl:bitsN x + 1074 < bitsN y + 54) :
  Calls Tryz.prog 57 #[ratV false a n c b m d] w fun e w' => e = .returned (.tuple #[.int .u64 ((0 + flN (bitsN x) (bitsN y) (val x) (val y):Nat):Int),.int .i64 0]) ∧ Below w.heap.size w w':=by
 have bx:=Box.made w false a n c b m d
 obtain ⟨wa,hwa⟩:∃ wa,ratBox w false a n c b m d = wa:=⟨_,rfl⟩
 rw [hwa] at bx
 unfold ratBox at hwa
 have hba:=bx.bel
 have p0:=bx.d0
 have p1:=bx.d1
 have p2:=bx.d2
 have K1:=wmay_any false a b n c m d x y wa (hx.below hba) (hy.below hba) ox oy
 rw [k1] at K1
 obtain ⟨kx,ky,ey,_,_⟩:=MayR.parts k1
 obtain ⟨x1,x2,x3,x4⟩:=bits_two ox kx ex
 obtain ⟨y1,y2,y3,y4⟩:=bits_two oy ky ey
 have hn:n ≤ 2048:=by have:=hx.len; have:=MayL.len kx; omega
 have hm:m ≤ 2048:=by have:=hy.len; have:=MayL.len ky; omega
 have hn0:((n:Int) == 0) = false:=by
  have h1:=hx.len
  have h2:x.length ≠ 0:=fun h => ex (List.length_eq_zero_iff.1 h)
  simp
  omega
 have hn1:¬ (n:Int) = 0:=by simpa using hn0
 have HLen:=Hd (rdE_len ox oy kx ky ey)
 have HBX:=Hd (fun (W:World) (hb:Below wa.heap.size wa W) => wbits_any a n c x W ((hx.below hba).below hb) ox (by omega))
 have HBY:=Hd (fun (W:World) (hb:Below wa.heap.size wa W) => wbits_any b m d y W ((hy.below hba).below hb) oy (by omega))
 have HKS:=Hd (fun (E:Nat) (hE:E ≤ 800000) (e:Int) (he:e = (E:Int) - 1074) (W:World) (hb:Below wa.heap.size wa W) => wscaled_E a b n c m d x y E W ((hx.below hba).below hb) nx ((hy.below hba).below hb) ox oy kx ky ey hE he)
 have HFE:=Hd (fun (E:Nat) h0 h1 h2 h3 => fl_end x1 x2 y1 y2 (E:=E) h0 h1 h2 h3)
 have HA:=Hd (fun (E:Nat) h0 h => rdE_A x1 x2 y1 y2 (E:=E) h0 h)
 have HB:=Hd (rdE_B x1 x2 y1 y2)
 have HC:=Hd (rdE_C x1 x2 y1 y2)
 have HU:=Hd (flU_le (q:=bitsN y) (X:=val x) (Y:=val y) x4)
 have hBa:=Hd hba
 have hk:=kB_eq
 obtain ⟨E0,hE0⟩:∃ E,bitsN x + kB - (bitsN y + 54) = E:=⟨_,rfl⟩
 have HE1:=Hd (show E0 ≤ flU (bitsN x) (bitsN y) (val x) (val y) from by unfold flU flG; split <;> omega)
 have hE2:E0 ≤ 70000:=by omega
 have hE3:E0 = 0:=by omega
 obtain ⟨P,hP⟩:∃ P,bitsN x = P:=⟨_,rfl⟩
 obtain ⟨Q,hQ⟩:∃ Q,bitsN y = Q:=⟨_,rfl⟩
 obtain ⟨X,hX⟩:∃ X,val x = X:=⟨_,rfl⟩
 obtain ⟨Y,hY⟩:∃ Y,val y = Y:=⟨_,rfl⟩
 rw [hP] at HBX
 rw [hQ] at HBY
 rw [hX,hY] at HLen HKS
 rw [hP,hQ,hX,hY] at HFE HA HB HC HU HE1 ⊢
 rw [hP,hQ] at hE0 hl
 rw [hP] at x4
 rw [hQ] at y4
 obtain ⟨FN,hFN⟩:∃ F,flN P Q X Y = F:=⟨_,rfl⟩
 rw [hFN] at HFE ⊢
 clear hFN
 have tl:(P:Int) - (Q:Int) - 54 < -1074:=by omega
 have HE0:=Hd hE0
 have HK1:=Hd K1
 have HE3:=Hd hE3
 clear K1 hx hy bx hba nx kx ky ey ex x1 x2 x3 y1 y2 y3 hP hQ hX hY hE0 hk k1 hl hE3
 unfold ratV at HK1 ⊢
 go_enter Tryz.func57,Tryz.ntmps57
 go_wp2_with fail
 refine (Uh HK1).mono ?_
 rintro _ w3 ⟨rfl,b3⟩
 have q0:=(ck b3 p0)
 have q1:=(ck b3 p1)
 have q2:=(ck b3 p2)
 have HB3:=Hd b3
 clear b3 HK1 p0 p1 p2
 have Fp1:=fun z:Ext w3 => z.cell q1
 have Fp2:=fun z:Ext w3 => z.cell q2
 have hNE:=Ext.ne w3
 go_wp2_with fail
 refine wp_region_ext (by kernel_rfl) (by kernel_rfl) ?_
 repeat (go_big_quiet_step (first
  | (go_at_call_of 110 (Value.slice a n c); rename_i z; exact Ext.call (Uh HBX z.w ((Uh HB3).trans (z.bel.mono (Uh HB3).size))) (fun e w' h => ⟨h.1,by rw [h.2]; exact Below.refl _ _⟩))
  | (go_at_call_of 110 (Value.slice b m d); rename_i z; exact Ext.call (Uh HBY z.w ((Uh HB3).trans (z.bel.mono (Uh HB3).size))) (fun e w' h => ⟨h.1,by rw [h.2]; exact Below.refl _ _⟩))))
 refine wpQuiet_nil ?_
 rintro _ ⟨xE,rfl⟩
 clear Fp1 Fp2 hNE
 have HBE:=Hd ((Uh HB3).trans (xE.bel.mono (Uh HB3).size))
 have r1:=xE.cell q1
 have r2:=xE.cell q2
 clear q0 q1 q2 HBX HBY
 have KS:=Uh HKS E0 (by omega) (-1074) (by have:=Uh HE3; omega) xE.w (Uh HBE)
 have KS':=Hd KS
 clear KS
 go_wp2_with fail
 refine (Uh KS').mono ?_
 rintro _ w5 ⟨a5,m5,c5,rfl,s5,n5,z5,b5⟩
 have l5:m5 ≤ 10000:=by have h1:=Uh HLen E0; have h2:=s5.len; omega
 have t1:=(ck b5 r1)
 have t2:=(ck b5 r2)
 have HB5:=Hd ((Uh HBE).trans (b5.mono (Uh HBE).size))
 have HR0:=Hd (show FlR w5 w5 X Y P Q E0 a5 m5 c5 from ⟨s5,l5,(by have:=Uh HE0; omega),(by have:=Uh HE1; omega),(fun h => by have:=Uh HE1; omega),Below.refl _ _⟩)
 clear s5 n5 z5 b5 KS' r1 r2 HE1
 go_wp2_with fail
 go_loopw [5,6] (fun ev qv wr => ∃ E:Nat,∃ aq mq cq,E ≤ 70001 ∧ ev = .int .i64 ((E:Int) - 1074) ∧ qv = .slice aq mq cq ∧ Hid (FlR w5 wr X Y P Q E aq mq cq)) (fun ev _ _ => 70002 - (intOf ev + 1074).toNat)
 case atStart => exact ⟨E0,_,_,_,by omega,(by rw [Uh HE3]; rfl),rfl,Uh HR0⟩
 case round =>
  clear HR0 l5
  obtain ⟨E,aq,mq,cq,hE,rfl,rfl,HR⟩:=hrel
  have u1:=(ck (Uh HR).bel t1)
  have u2:=(ck (Uh HR).bel t2)
  have HBR:=Hd ((Uh HB5).trans ((Uh HR).bel.mono (Uh HB5).size))
  have KB:=wbits_any aq mq cq (limbs (rdE X Y E)) wr (Uh HR).sq (limbs_ok _) (by have:=(Uh HR).len; omega)
  by_cases hbig:9007199254740992 ≤ rdE X Y E
  ·have hb:53 < bitsN (limbs (rdE X Y E)):=bits_ge.2 hbig
   obtain ⟨BV,hBV⟩:∃ B,bitsN (limbs (rdE X Y E)) = B:=⟨_,rfl⟩
   rw [hBV] at KB hb
   have tb:(53:Int) < (BV:Int):=by omega
   obtain ⟨E1,hE1⟩:∃ E1,E1 = E + 1:=⟨_,rfl⟩
   have te1:(E:Int) - 1074 + 1 = (E1:Int) - 1074:=by omega
   have hUle:=Uh HU
   have hEU:E ≤ flU P Q X Y:=by
    by_cases k:E = flU P Q X Y + 1
    ·have h1:=Uh HC ((Uh HR).h2 k)
     rw [← k] at h1
     omega
    ·have:=(Uh HR).h1; omega
   have hE1b:E1 ≤ 70001:=by omega
   have HN:=Hd (fun (w7:World) (a7:Option Addr) (m7 c7:Nat) (s7:Sl w7 a7 m7 c7 (limbs (rdE X Y E1))) (b7:Below wr.heap.size wr w7) => (show FlR w5 w7 X Y P Q E1 a7 m7 c7 from ⟨s7,(by have h1:=Uh HLen E1; have h2:=s7.len; omega),(by have:=(Uh HR).h0; omega),(by omega),(fun h => by
    have h3:E = flU P Q X Y:=by omega
    have h4:=Uh HB
    rw [h3] at hbig
    omega),(Uh HR).bel.trans (b7.mono (Uh HR).bel.size)⟩))
   have hlt:E < E1:=by omega
   have KS:=Uh HKS E1 (by omega) ((E1:Int) - 1074) rfl wr (Uh HBR)
   have HKS2:=Hd KS
   have HKB:=Hd KB
   clear KB KS hBV hbig hE1 hUle hEU hb
   go_wp2_with fail
   refine (Uh HKB).mono ?_
   rintro _ _ ⟨rfl,hw⟩
   obtain rfl:=hw.symm
   clear hw
   go_wp2_with fail
   refine (Uh HKS2).mono ?_
   rintro _ w7 ⟨a7,m7,c7,rfl,s7,n7,z7,b7⟩
   have HN7:=Hd (Uh HN w7 a7 m7 c7 s7 b7)
   clear s7 n7 z7 b7 HKS2 HN
   go_wp2_with fail
   exact ⟨⟨E1,_,_,_,by omega,by go_num,rfl,Uh HN7⟩,by simp [intOf]; omega⟩
  ·have hb:¬ 53 < bitsN (limbs (rdE X Y E)):=fun h => hbig (bits_ge.1 h)
   obtain ⟨BV,hBV⟩:∃ B,bitsN (limbs (rdE X Y E)) = B:=⟨_,rfl⟩
   rw [hBV] at KB hb
   have tb:¬ (53:Int) < (BV:Int):=by omega
   have hF:=Uh HFE E (Uh HR).h0 (Uh HR).h1 (Uh HR).h2 (by omega)
   have HKB:=Hd KB
   have hlen2:=limbs_len (show rdE X Y E < 4294967296 ^ 2 by omega)
   rw [(Uh HR).sq.len] at hlen2
   by_cases hinf:2045 < E
   ·have hF1:=Hd (hF.1 hinf)
    have ti:(971:Int) < (E:Int) - 1074:=by omega
    clear hF KB hBV hb hbig
    go_wp2_with fail
    refine (Uh HKB).mono ?_
    rintro _ _ ⟨rfl,hw⟩
    obtain rfl:=hw.symm
    clear hw
    go_wp2_with fail
    go_ret2
    rw [Uh hF1]
    exact ⟨rfl,(Uh hBa).trans ((Uh HBR).mono (Uh hBa).size)⟩
   ·obtain ⟨hF2,hF3⟩:=hF.2 (by omega)
    have ti:decide ((971:Int) < (E:Int) - 1074) = false:=by simp; omega
    have KM:=wsmall_any aq mq cq (limbs (rdE X Y E)) wr (Uh HR).sq (limbs_ok _) hlen2
    rw [limbs_v] at KM
    obtain ⟨V,hV⟩:∃ V,rdE X Y E = V:=⟨_,rfl⟩
    rw [hV] at KM hF2 hF3 hbig
    have HKM:=Hd KM
    have hV53:V < 9007199254740992:=by omega
    by_cases hsub:V < 4503599627370496
    ·have hE9:=hF3 hsub
     have HF2:=Hd (show 0 + FN = 0 + V from by rw [hF2,hE9]; omega)
     have hor:=or_none (v:=V) (by omega)
     clear hF KB hBV hb hbig hF2 hF3 hV hE9 KM hV53
     go_wp2_with fail
     refine (Uh HKB).mono ?_
     rintro _ _ ⟨rfl,hw⟩
     obtain rfl:=hw.symm
     clear hw
     go_wp2_with fail
     refine (Uh HKM).mono ?_
     rintro _ _ ⟨rfl,hw⟩
     obtain rfl:=hw.symm
     clear hw
     have ts:decide ((V:Int) < 4503599627370496) = true:=by simp; omega
     go_wp2_with fail
     go_ret2
     rw [Uh HF2]
     exact ⟨by (first | rfl | simp),(Uh hBa).trans ((Uh HBR).mono (Uh hBa).size)⟩
    ·obtain ⟨E1,hE1⟩:∃ E1,E1 = E + 1:=⟨_,rfl⟩
     obtain ⟨V1,hV1⟩:∃ V1,V1 = V - 4503599627370496:=⟨_,rfl⟩
     have HF2:=Hd (show 0 + FN = 0 + E1 * 4503599627370496 + V1 from by rw [hF2,hE1,hV1]; omega)
     have te1:(E:Int) - 1074 + 1075 = (E1:Int):=by omega
     have HV1:=Hd hV1
     have hE1b:E1 < 2047:=by omega
     have hV1b:V1 < 4503599627370496:=by omega
     clear hF KB hBV hb hbig hF2 hF3 hV KM hE1 hV1
     go_wp2_with fail
     refine (Uh HKB).mono ?_
     rintro _ _ ⟨rfl,hw⟩
     obtain rfl:=hw.symm
     clear hw
     go_wp2_with fail
     refine (Uh HKM).mono ?_
     rintro _ _ ⟨rfl,hw⟩
     obtain rfl:=hw.symm
     clear hw
     have ts:decide ((V:Int) < 4503599627370496) = false:=by simp; omega
     have t53:((V:Int) == 9007199254740992) = false:=by simp; omega
     have tv1:(V:Int) - 4503599627370496 = (V1:Int):=by have:=Uh HV1; omega
     clear hsub hV53
     go_wp2_with fail
     go_ret2
     rw [Uh HF2]
     exact ⟨by rw [or3_F hE1b hV1b]; rfl,(Uh hBa).trans ((Uh HBR).mono (Uh hBa).size)⟩
set_option maxRecDepth 100000 in
set_option maxHeartbeats 16000000 in
theorem wfloat_FH (a b:Option Addr) (n c m d:Nat) (x y:List Nat) (w:World) (hx:Sl w a n c x) (hy:Sl w b m d y) (ox:Ok x) (oy:Ok y) (nx:a = none → c = 0) (k1:MayR false x y = true) (ex:x ≠ []) (hl:¬ bitsN x + 1074 < bitsN y + 54) :
  Calls Tryz.prog 57 #[ratV false a n c b m d] w fun e w' => e = .returned (.tuple #[.int .u64 ((0 + flN (bitsN x) (bitsN y) (val x) (val y):Nat):Int),.int .i64 0]) ∧ Below w.heap.size w w':=by
 have bx:=Box.made w false a n c b m d
 obtain ⟨wa,hwa⟩:∃ wa,ratBox w false a n c b m d = wa:=⟨_,rfl⟩
 rw [hwa] at bx
 unfold ratBox at hwa
 have hba:=bx.bel
 have p0:=bx.d0
 have p1:=bx.d1
 have p2:=bx.d2
 have K1:=wmay_any false a b n c m d x y wa (hx.below hba) (hy.below hba) ox oy
 rw [k1] at K1
 obtain ⟨kx,ky,ey,_,_⟩:=MayR.parts k1
 obtain ⟨x1,x2,x3,x4⟩:=bits_two ox kx ex
 obtain ⟨y1,y2,y3,y4⟩:=bits_two oy ky ey
 have hn:n ≤ 2048:=by have:=hx.len; have:=MayL.len kx; omega
 have hm:m ≤ 2048:=by have:=hy.len; have:=MayL.len ky; omega
 have hn0:((n:Int) == 0) = false:=by
  have h1:=hx.len
  have h2:x.length ≠ 0:=fun h => ex (List.length_eq_zero_iff.1 h)
  simp
  omega
 have hn1:¬ (n:Int) = 0:=by simpa using hn0
 have HLen:=Hd (rdE_len ox oy kx ky ey)
 have HBX:=Hd (fun (W:World) (hb:Below wa.heap.size wa W) => wbits_any a n c x W ((hx.below hba).below hb) ox (by omega))
 have HBY:=Hd (fun (W:World) (hb:Below wa.heap.size wa W) => wbits_any b m d y W ((hy.below hba).below hb) oy (by omega))
 have HKS:=Hd (fun (E:Nat) (hE:E ≤ 800000) (e:Int) (he:e = (E:Int) - 1074) (W:World) (hb:Below wa.heap.size wa W) => wscaled_E a b n c m d x y E W ((hx.below hba).below hb) nx ((hy.below hba).below hb) ox oy kx ky ey hE he)
 have HFE:=Hd (fun (E:Nat) h0 h1 h2 h3 => fl_end x1 x2 y1 y2 (E:=E) h0 h1 h2 h3)
 have HA:=Hd (fun (E:Nat) h0 h => rdE_A x1 x2 y1 y2 (E:=E) h0 h)
 have HB:=Hd (rdE_B x1 x2 y1 y2)
 have HC:=Hd (rdE_C x1 x2 y1 y2)
 have HU:=Hd (flU_le (q:=bitsN y) (X:=val x) (Y:=val y) x4)
 have hBa:=Hd hba
 have hk:=kB_eq
 obtain ⟨E0,hE0⟩:∃ E,bitsN x + kB - (bitsN y + 54) = E:=⟨_,rfl⟩
 have HE1:=Hd (show E0 ≤ flU (bitsN x) (bitsN y) (val x) (val y) from by unfold flU flG; split <;> omega)
 have hE2:E0 ≤ 70000:=by omega
 have te:((bitsN x:Nat):Int) - ((bitsN y:Nat):Int) - 54 = (E0:Int) - 1074:=by omega
 obtain ⟨P,hP⟩:∃ P,bitsN x = P:=⟨_,rfl⟩
 obtain ⟨Q,hQ⟩:∃ Q,bitsN y = Q:=⟨_,rfl⟩
 obtain ⟨X,hX⟩:∃ X,val x = X:=⟨_,rfl⟩
 obtain ⟨Y,hY⟩:∃ Y,val y = Y:=⟨_,rfl⟩
 rw [hP] at HBX
 rw [hQ] at HBY
 rw [hX,hY] at HLen HKS
 rw [hP,hQ,hX,hY] at HFE HA HB HC HU HE1 ⊢
 rw [hP,hQ] at hE0 hl
 rw [hP] at x4
 rw [hQ] at y4
 obtain ⟨FN,hFN⟩:∃ F,flN P Q X Y = F:=⟨_,rfl⟩
 rw [hFN] at HFE ⊢
 clear hFN
 rw [hP,hQ] at te
 have tl:¬ (E0:Int) - 1074 < -1074:=by omega
 have HE0:=Hd hE0
 have HK1:=Hd K1
 clear K1 hx hy bx hba nx kx ky ey ex x1 x2 x3 y1 y2 y3 hP hQ hX hY hE0 hk k1 hl
 unfold ratV at HK1 ⊢
 go_enter Tryz.func57,Tryz.ntmps57
 go_wp2_with fail
 refine (Uh HK1).mono ?_
 rintro _ w3 ⟨rfl,b3⟩
 have q0:=(ck b3 p0)
 have q1:=(ck b3 p1)
 have q2:=(ck b3 p2)
 have HB3:=Hd b3
 clear b3 HK1 p0 p1 p2
 have Fp1:=fun z:Ext w3 => z.cell q1
 have Fp2:=fun z:Ext w3 => z.cell q2
 have hNE:=Ext.ne w3
 go_wp2_with fail
 refine wp_region_ext (by kernel_rfl) (by kernel_rfl) ?_
 repeat (go_big_quiet_step (first
  | (go_at_call_of 110 (Value.slice a n c); rename_i z; exact Ext.call (Uh HBX z.w ((Uh HB3).trans (z.bel.mono (Uh HB3).size))) (fun e w' h => ⟨h.1,by rw [h.2]; exact Below.refl _ _⟩))
  | (go_at_call_of 110 (Value.slice b m d); rename_i z; exact Ext.call (Uh HBY z.w ((Uh HB3).trans (z.bel.mono (Uh HB3).size))) (fun e w' h => ⟨h.1,by rw [h.2]; exact Below.refl _ _⟩))))
 refine wpQuiet_nil ?_
 rintro _ ⟨xE,rfl⟩
 clear Fp1 Fp2 hNE
 have HBE:=Hd ((Uh HB3).trans (xE.bel.mono (Uh HB3).size))
 have r1:=xE.cell q1
 have r2:=xE.cell q2
 clear q0 q1 q2 HBX HBY
 have KS:=Uh HKS E0 (by omega) (((E0:Int) - 1074)) rfl xE.w (Uh HBE)
 have KS':=Hd KS
 clear KS
 go_wp2_with fail
 refine (Uh KS').mono ?_
 rintro _ w5 ⟨a5,m5,c5,rfl,s5,n5,z5,b5⟩
 have l5:m5 ≤ 10000:=by have h1:=Uh HLen E0; have h2:=s5.len; omega
 have t1:=(ck b5 r1)
 have t2:=(ck b5 r2)
 have HB5:=Hd ((Uh HBE).trans (b5.mono (Uh HBE).size))
 have HR0:=Hd (show FlR w5 w5 X Y P Q E0 a5 m5 c5 from ⟨s5,l5,(by have:=Uh HE0; omega),(by have:=Uh HE1; omega),(fun h => by have:=Uh HE1; omega),Below.refl _ _⟩)
 clear s5 n5 z5 b5 KS' r1 r2 HE1
 go_wp2_with fail
 go_loopw [5,6] (fun ev qv wr => ∃ E:Nat,∃ aq mq cq,E ≤ 70001 ∧ ev = .int .i64 ((E:Int) - 1074) ∧ qv = .slice aq mq cq ∧ Hid (FlR w5 wr X Y P Q E aq mq cq)) (fun ev _ _ => 70002 - (intOf ev + 1074).toNat)
 case atStart => exact ⟨E0,_,_,_,by omega,rfl,rfl,Uh HR0⟩
 case round =>
  clear HR0 l5
  obtain ⟨E,aq,mq,cq,hE,rfl,rfl,HR⟩:=hrel
  have u1:=(ck (Uh HR).bel t1)
  have u2:=(ck (Uh HR).bel t2)
  have HBR:=Hd ((Uh HB5).trans ((Uh HR).bel.mono (Uh HB5).size))
  have KB:=wbits_any aq mq cq (limbs (rdE X Y E)) wr (Uh HR).sq (limbs_ok _) (by have:=(Uh HR).len; omega)
  by_cases hbig:9007199254740992 ≤ rdE X Y E
  ·have hb:53 < bitsN (limbs (rdE X Y E)):=bits_ge.2 hbig
   obtain ⟨BV,hBV⟩:∃ B,bitsN (limbs (rdE X Y E)) = B:=⟨_,rfl⟩
   rw [hBV] at KB hb
   have tb:(53:Int) < (BV:Int):=by omega
   obtain ⟨E1,hE1⟩:∃ E1,E1 = E + 1:=⟨_,rfl⟩
   have te1:(E:Int) - 1074 + 1 = (E1:Int) - 1074:=by omega
   have hUle:=Uh HU
   have hEU:E ≤ flU P Q X Y:=by
    by_cases k:E = flU P Q X Y + 1
    ·have h1:=Uh HC ((Uh HR).h2 k)
     rw [← k] at h1
     omega
    ·have:=(Uh HR).h1; omega
   have hE1b:E1 ≤ 70001:=by omega
   have HN:=Hd (fun (w7:World) (a7:Option Addr) (m7 c7:Nat) (s7:Sl w7 a7 m7 c7 (limbs (rdE X Y E1))) (b7:Below wr.heap.size wr w7) => (show FlR w5 w7 X Y P Q E1 a7 m7 c7 from ⟨s7,(by have h1:=Uh HLen E1; have h2:=s7.len; omega),(by have:=(Uh HR).h0; omega),(by omega),(fun h => by
    have h3:E = flU P Q X Y:=by omega
    have h4:=Uh HB
    rw [h3] at hbig
    omega),(Uh HR).bel.trans (b7.mono (Uh HR).bel.size)⟩))
   have hlt:E < E1:=by omega
   have KS:=Uh HKS E1 (by omega) ((E1:Int) - 1074) rfl wr (Uh HBR)
   have HKS2:=Hd KS
   have HKB:=Hd KB
   clear KB KS hBV hbig hE1 hUle hEU hb
   go_wp2_with fail
   refine (Uh HKB).mono ?_
   rintro _ _ ⟨rfl,hw⟩
   obtain rfl:=hw.symm
   clear hw
   go_wp2_with fail
   refine (Uh HKS2).mono ?_
   rintro _ w7 ⟨a7,m7,c7,rfl,s7,n7,z7,b7⟩
   have HN7:=Hd (Uh HN w7 a7 m7 c7 s7 b7)
   clear s7 n7 z7 b7 HKS2 HN
   go_wp2_with fail
   exact ⟨⟨E1,_,_,_,by omega,by go_num,rfl,Uh HN7⟩,by simp [intOf]; omega⟩
  ·have hb:¬ 53 < bitsN (limbs (rdE X Y E)):=fun h => hbig (bits_ge.1 h)
   obtain ⟨BV,hBV⟩:∃ B,bitsN (limbs (rdE X Y E)) = B:=⟨_,rfl⟩
   rw [hBV] at KB hb
   have tb:¬ (53:Int) < (BV:Int):=by omega
   have hF:=Uh HFE E (Uh HR).h0 (Uh HR).h1 (Uh HR).h2 (by omega)
   have HKB:=Hd KB
   have hlen2:=limbs_len (show rdE X Y E < 4294967296 ^ 2 by omega)
   rw [(Uh HR).sq.len] at hlen2
   by_cases hinf:2045 < E
   ·have hF1:=Hd (hF.1 hinf)
    have ti:(971:Int) < (E:Int) - 1074:=by omega
    clear hF KB hBV hb hbig
    go_wp2_with fail
    refine (Uh HKB).mono ?_
    rintro _ _ ⟨rfl,hw⟩
    obtain rfl:=hw.symm
    clear hw
    go_wp2_with fail
    go_ret2
    rw [Uh hF1]
    exact ⟨rfl,(Uh hBa).trans ((Uh HBR).mono (Uh hBa).size)⟩
   ·obtain ⟨hF2,hF3⟩:=hF.2 (by omega)
    have ti:decide ((971:Int) < (E:Int) - 1074) = false:=by simp; omega
    have KM:=wsmall_any aq mq cq (limbs (rdE X Y E)) wr (Uh HR).sq (limbs_ok _) hlen2
    rw [limbs_v] at KM
    obtain ⟨V,hV⟩:∃ V,rdE X Y E = V:=⟨_,rfl⟩
    rw [hV] at KM hF2 hF3 hbig
    have HKM:=Hd KM
    have hV53:V < 9007199254740992:=by omega
    by_cases hsub:V < 4503599627370496
    ·have hE9:=hF3 hsub
     have HF2:=Hd (show 0 + FN = 0 + V from by rw [hF2,hE9]; omega)
     have hor:=or_none (v:=V) (by omega)
     clear hF KB hBV hb hbig hF2 hF3 hV hE9 KM hV53
     go_wp2_with fail
     refine (Uh HKB).mono ?_
     rintro _ _ ⟨rfl,hw⟩
     obtain rfl:=hw.symm
     clear hw
     go_wp2_with fail
     refine (Uh HKM).mono ?_
     rintro _ _ ⟨rfl,hw⟩
     obtain rfl:=hw.symm
     clear hw
     have ts:decide ((V:Int) < 4503599627370496) = true:=by simp; omega
     go_wp2_with fail
     go_ret2
     rw [Uh HF2]
     exact ⟨by (first | rfl | simp),(Uh hBa).trans ((Uh HBR).mono (Uh hBa).size)⟩
    ·obtain ⟨E1,hE1⟩:∃ E1,E1 = E + 1:=⟨_,rfl⟩
     obtain ⟨V1,hV1⟩:∃ V1,V1 = V - 4503599627370496:=⟨_,rfl⟩
     have HF2:=Hd (show 0 + FN = 0 + E1 * 4503599627370496 + V1 from by rw [hF2,hE1,hV1]; omega)
     have te1:(E:Int) - 1074 + 1075 = (E1:Int):=by omega
     have HV1:=Hd hV1
     have hE1b:E1 < 2047:=by omega
     have hV1b:V1 < 4503599627370496:=by omega
     clear hF KB hBV hb hbig hF2 hF3 hV KM hE1 hV1
     go_wp2_with fail
     refine (Uh HKB).mono ?_
     rintro _ _ ⟨rfl,hw⟩
     obtain rfl:=hw.symm
     clear hw
     go_wp2_with fail
     refine (Uh HKM).mono ?_
     rintro _ _ ⟨rfl,hw⟩
     obtain rfl:=hw.symm
     clear hw
     have ts:decide ((V:Int) < 4503599627370496) = false:=by simp; omega
     have t53:((V:Int) == 9007199254740992) = false:=by simp; omega
     have tv1:(V:Int) - 4503599627370496 = (V1:Int):=by have:=Uh HV1; omega
     clear hsub hV53
     go_wp2_with fail
     go_ret2
     rw [Uh HF2]
     exact ⟨by rw [or3_F hE1b hV1b]; rfl,(Uh hBa).trans ((Uh HBR).mono (Uh hBa).size)⟩
set_option maxRecDepth 100000 in
set_option maxHeartbeats 16000000 in
theorem wfloat_TL (a b:Option Addr) (n c m d:Nat) (x y:List Nat) (w:World) (hx:Sl w a n c x) (hy:Sl w b m d y) (ox:Ok x) (oy:Ok y) (nx:a = none → c = 0) (k1:MayR true x y = true) (ex:x ≠ []) (hl:bitsN x + 1074 < bitsN y + 54) :
  Calls Tryz.prog 57 #[ratV true a n c b m d] w fun e w' => e = .returned (.tuple #[.int .u64 ((9223372036854775808 + flN (bitsN x) (bitsN y) (val x) (val y):Nat):Int),.int .i64 0]) ∧ Below w.heap.size w w':=by
 have bx:=Box.made w true a n c b m d
 obtain ⟨wa,hwa⟩:∃ wa,ratBox w true a n c b m d = wa:=⟨_,rfl⟩
 rw [hwa] at bx
 unfold ratBox at hwa
 have hba:=bx.bel
 have p0:=bx.d0
 have p1:=bx.d1
 have p2:=bx.d2
 have K1:=wmay_any true a b n c m d x y wa (hx.below hba) (hy.below hba) ox oy
 rw [k1] at K1
 obtain ⟨kx,ky,ey,_,_⟩:=MayR.parts k1
 obtain ⟨x1,x2,x3,x4⟩:=bits_two ox kx ex
 obtain ⟨y1,y2,y3,y4⟩:=bits_two oy ky ey
 have hn:n ≤ 2048:=by have:=hx.len; have:=MayL.len kx; omega
 have hm:m ≤ 2048:=by have:=hy.len; have:=MayL.len ky; omega
 have hn0:((n:Int) == 0) = false:=by
  have h1:=hx.len
  have h2:x.length ≠ 0:=fun h => ex (List.length_eq_zero_iff.1 h)
  simp
  omega
 have hn1:¬ (n:Int) = 0:=by simpa using hn0
 have HLen:=Hd (rdE_len ox oy kx ky ey)
 have HBX:=Hd (fun (W:World) (hb:Below wa.heap.size wa W) => wbits_any a n c x W ((hx.below hba).below hb) ox (by omega))
 have HBY:=Hd (fun (W:World) (hb:Below wa.heap.size wa W) => wbits_any b m d y W ((hy.below hba).below hb) oy (by omega))
 have HKS:=Hd (fun (E:Nat) (hE:E ≤ 800000) (e:Int) (he:e = (E:Int) - 1074) (W:World) (hb:Below wa.heap.size wa W) => wscaled_E a b n c m d x y E W ((hx.below hba).below hb) nx ((hy.below hba).below hb) ox oy kx ky ey hE he)
 have HFE:=Hd (fun (E:Nat) h0 h1 h2 h3 => fl_end x1 x2 y1 y2 (E:=E) h0 h1 h2 h3)
 have HA:=Hd (fun (E:Nat) h0 h => rdE_A x1 x2 y1 y2 (E:=E) h0 h)
 have HB:=Hd (rdE_B x1 x2 y1 y2)
 have HC:=Hd (rdE_C x1 x2 y1 y2)
 have HU:=Hd (flU_le (q:=bitsN y) (X:=val x) (Y:=val y) x4)
 have hBa:=Hd hba
 have hk:=kB_eq
 obtain ⟨E0,hE0⟩:∃ E,bitsN x + kB - (bitsN y + 54) = E:=⟨_,rfl⟩
 have HE1:=Hd (show E0 ≤ flU (bitsN x) (bitsN y) (val x) (val y) from by unfold flU flG; split <;> omega)
 have hE2:E0 ≤ 70000:=by omega
 have hE3:E0 = 0:=by omega
 obtain ⟨P,hP⟩:∃ P,bitsN x = P:=⟨_,rfl⟩
 obtain ⟨Q,hQ⟩:∃ Q,bitsN y = Q:=⟨_,rfl⟩
 obtain ⟨X,hX⟩:∃ X,val x = X:=⟨_,rfl⟩
 obtain ⟨Y,hY⟩:∃ Y,val y = Y:=⟨_,rfl⟩
 rw [hP] at HBX
 rw [hQ] at HBY
 rw [hX,hY] at HLen HKS
 rw [hP,hQ,hX,hY] at HFE HA HB HC HU HE1 ⊢
 rw [hP,hQ] at hE0 hl
 rw [hP] at x4
 rw [hQ] at y4
 obtain ⟨FN,hFN⟩:∃ F,flN P Q X Y = F:=⟨_,rfl⟩
 rw [hFN] at HFE ⊢
 clear hFN
 have tl:(P:Int) - (Q:Int) - 54 < -1074:=by omega
 have HE0:=Hd hE0
 have HK1:=Hd K1
 have HE3:=Hd hE3
 clear K1 hx hy bx hba nx kx ky ey ex x1 x2 x3 y1 y2 y3 hP hQ hX hY hE0 hk k1 hl hE3
 unfold ratV at HK1 ⊢
 go_enter Tryz.func57,Tryz.ntmps57
 go_wp2_with fail
 refine (Uh HK1).mono ?_
 rintro _ w3 ⟨rfl,b3⟩
 have q0:=(ck b3 p0)
 have q1:=(ck b3 p1)
 have q2:=(ck b3 p2)
 have HB3:=Hd b3
 clear b3 HK1 p0 p1 p2
 have Fp1:=fun z:Ext w3 => z.cell q1
 have Fp2:=fun z:Ext w3 => z.cell q2
 have hNE:=Ext.ne w3
 go_wp2_with fail
 refine wp_region_ext (by kernel_rfl) (by kernel_rfl) ?_
 repeat (go_big_quiet_step (first
  | (go_at_call_of 110 (Value.slice a n c); rename_i z; exact Ext.call (Uh HBX z.w ((Uh HB3).trans (z.bel.mono (Uh HB3).size))) (fun e w' h => ⟨h.1,by rw [h.2]; exact Below.refl _ _⟩))
  | (go_at_call_of 110 (Value.slice b m d); rename_i z; exact Ext.call (Uh HBY z.w ((Uh HB3).trans (z.bel.mono (Uh HB3).size))) (fun e w' h => ⟨h.1,by rw [h.2]; exact Below.refl _ _⟩))))
 refine wpQuiet_nil ?_
 rintro _ ⟨xE,rfl⟩
 clear Fp1 Fp2 hNE
 have HBE:=Hd ((Uh HB3).trans (xE.bel.mono (Uh HB3).size))
 have r1:=xE.cell q1
 have r2:=xE.cell q2
 clear q0 q1 q2 HBX HBY
 have KS:=Uh HKS E0 (by omega) (-1074) (by have:=Uh HE3; omega) xE.w (Uh HBE)
 have KS':=Hd KS
 clear KS
 go_wp2_with fail
 refine (Uh KS').mono ?_
 rintro _ w5 ⟨a5,m5,c5,rfl,s5,n5,z5,b5⟩
 have l5:m5 ≤ 10000:=by have h1:=Uh HLen E0; have h2:=s5.len; omega
 have t1:=(ck b5 r1)
 have t2:=(ck b5 r2)
 have HB5:=Hd ((Uh HBE).trans (b5.mono (Uh HBE).size))
 have HR0:=Hd (show FlR w5 w5 X Y P Q E0 a5 m5 c5 from ⟨s5,l5,(by have:=Uh HE0; omega),(by have:=Uh HE1; omega),(fun h => by have:=Uh HE1; omega),Below.refl _ _⟩)
 clear s5 n5 z5 b5 KS' r1 r2 HE1
 go_wp2_with fail
 go_loopw [5,6] (fun ev qv wr => ∃ E:Nat,∃ aq mq cq,E ≤ 70001 ∧ ev = .int .i64 ((E:Int) - 1074) ∧ qv = .slice aq mq cq ∧ Hid (FlR w5 wr X Y P Q E aq mq cq)) (fun ev _ _ => 70002 - (intOf ev + 1074).toNat)
 case atStart => exact ⟨E0,_,_,_,by omega,(by rw [Uh HE3]; rfl),rfl,Uh HR0⟩
 case round =>
  clear HR0 l5
  obtain ⟨E,aq,mq,cq,hE,rfl,rfl,HR⟩:=hrel
  have u1:=(ck (Uh HR).bel t1)
  have u2:=(ck (Uh HR).bel t2)
  have HBR:=Hd ((Uh HB5).trans ((Uh HR).bel.mono (Uh HB5).size))
  have KB:=wbits_any aq mq cq (limbs (rdE X Y E)) wr (Uh HR).sq (limbs_ok _) (by have:=(Uh HR).len; omega)
  by_cases hbig:9007199254740992 ≤ rdE X Y E
  ·have hb:53 < bitsN (limbs (rdE X Y E)):=bits_ge.2 hbig
   obtain ⟨BV,hBV⟩:∃ B,bitsN (limbs (rdE X Y E)) = B:=⟨_,rfl⟩
   rw [hBV] at KB hb
   have tb:(53:Int) < (BV:Int):=by omega
   obtain ⟨E1,hE1⟩:∃ E1,E1 = E + 1:=⟨_,rfl⟩
   have te1:(E:Int) - 1074 + 1 = (E1:Int) - 1074:=by omega
   have hUle:=Uh HU
   have hEU:E ≤ flU P Q X Y:=by
    by_cases k:E = flU P Q X Y + 1
    ·have h1:=Uh HC ((Uh HR).h2 k)
     rw [← k] at h1
     omega
    ·have:=(Uh HR).h1; omega
   have hE1b:E1 ≤ 70001:=by omega
   have HN:=Hd (fun (w7:World) (a7:Option Addr) (m7 c7:Nat) (s7:Sl w7 a7 m7 c7 (limbs (rdE X Y E1))) (b7:Below wr.heap.size wr w7) => (show FlR w5 w7 X Y P Q E1 a7 m7 c7 from ⟨s7,(by have h1:=Uh HLen E1; have h2:=s7.len; omega),(by have:=(Uh HR).h0; omega),(by omega),(fun h => by
    have h3:E = flU P Q X Y:=by omega
    have h4:=Uh HB
    rw [h3] at hbig
    omega),(Uh HR).bel.trans (b7.mono (Uh HR).bel.size)⟩))
   have hlt:E < E1:=by omega
   have KS:=Uh HKS E1 (by omega) ((E1:Int) - 1074) rfl wr (Uh HBR)
   have HKS2:=Hd KS
   have HKB:=Hd KB
   clear KB KS hBV hbig hE1 hUle hEU hb
   go_wp2_with fail
   refine (Uh HKB).mono ?_
   rintro _ _ ⟨rfl,hw⟩
   obtain rfl:=hw.symm
   clear hw
   go_wp2_with fail
   refine (Uh HKS2).mono ?_
   rintro _ w7 ⟨a7,m7,c7,rfl,s7,n7,z7,b7⟩
   have HN7:=Hd (Uh HN w7 a7 m7 c7 s7 b7)
   clear s7 n7 z7 b7 HKS2 HN
   go_wp2_with fail
   exact ⟨⟨E1,_,_,_,by omega,by go_num,rfl,Uh HN7⟩,by simp [intOf]; omega⟩
  ·have hb:¬ 53 < bitsN (limbs (rdE X Y E)):=fun h => hbig (bits_ge.1 h)
   obtain ⟨BV,hBV⟩:∃ B,bitsN (limbs (rdE X Y E)) = B:=⟨_,rfl⟩
   rw [hBV] at KB hb
   have tb:¬ (53:Int) < (BV:Int):=by omega
   have hF:=Uh HFE E (Uh HR).h0 (Uh HR).h1 (Uh HR).h2 (by omega)
   have HKB:=Hd KB
   have hlen2:=limbs_len (show rdE X Y E < 4294967296 ^ 2 by omega)
   rw [(Uh HR).sq.len] at hlen2
   by_cases hinf:2045 < E
   ·have hF1:=Hd (hF.1 hinf)
    have ti:(971:Int) < (E:Int) - 1074:=by omega
    clear hF KB hBV hb hbig
    go_wp2_with fail
    refine (Uh HKB).mono ?_
    rintro _ _ ⟨rfl,hw⟩
    obtain rfl:=hw.symm
    clear hw
    go_wp2_with fail
    go_ret2
    rw [Uh hF1]
    exact ⟨rfl,(Uh hBa).trans ((Uh HBR).mono (Uh hBa).size)⟩
   ·obtain ⟨hF2,hF3⟩:=hF.2 (by omega)
    have ti:decide ((971:Int) < (E:Int) - 1074) = false:=by simp; omega
    have KM:=wsmall_any aq mq cq (limbs (rdE X Y E)) wr (Uh HR).sq (limbs_ok _) hlen2
    rw [limbs_v] at KM
    obtain ⟨V,hV⟩:∃ V,rdE X Y E = V:=⟨_,rfl⟩
    rw [hV] at KM hF2 hF3 hbig
    have HKM:=Hd KM
    have hV53:V < 9007199254740992:=by omega
    by_cases hsub:V < 4503599627370496
    ·have hE9:=hF3 hsub
     have HF2:=Hd (show 9223372036854775808 + FN = 9223372036854775808 + V from by rw [hF2,hE9]; omega)
     have hor:=or_top (v:=V) (by omega)
     clear hF KB hBV hb hbig hF2 hF3 hV hE9 KM hV53
     go_wp2_with fail
     refine (Uh HKB).mono ?_
     rintro _ _ ⟨rfl,hw⟩
     obtain rfl:=hw.symm
     clear hw
     go_wp2_with fail
     refine (Uh HKM).mono ?_
     rintro _ _ ⟨rfl,hw⟩
     obtain rfl:=hw.symm
     clear hw
     have ts:decide ((V:Int) < 4503599627370496) = true:=by simp; omega
     go_wp2_with fail
     go_ret2
     rw [Uh HF2]
     exact ⟨by (first | rfl | simp),(Uh hBa).trans ((Uh HBR).mono (Uh hBa).size)⟩
    ·obtain ⟨E1,hE1⟩:∃ E1,E1 = E + 1:=⟨_,rfl⟩
     obtain ⟨V1,hV1⟩:∃ V1,V1 = V - 4503599627370496:=⟨_,rfl⟩
     have HF2:=Hd (show 9223372036854775808 + FN = 9223372036854775808 + E1 * 4503599627370496 + V1 from by rw [hF2,hE1,hV1]; omega)
     have te1:(E:Int) - 1074 + 1075 = (E1:Int):=by omega
     have HV1:=Hd hV1
     have hE1b:E1 < 2047:=by omega
     have hV1b:V1 < 4503599627370496:=by omega
     clear hF KB hBV hb hbig hF2 hF3 hV KM hE1 hV1
     go_wp2_with fail
     refine (Uh HKB).mono ?_
     rintro _ _ ⟨rfl,hw⟩
     obtain rfl:=hw.symm
     clear hw
     go_wp2_with fail
     refine (Uh HKM).mono ?_
     rintro _ _ ⟨rfl,hw⟩
     obtain rfl:=hw.symm
     clear hw
     have ts:decide ((V:Int) < 4503599627370496) = false:=by simp; omega
     have t53:((V:Int) == 9007199254740992) = false:=by simp; omega
     have tv1:(V:Int) - 4503599627370496 = (V1:Int):=by have:=Uh HV1; omega
     clear hsub hV53
     go_wp2_with fail
     go_ret2
     rw [Uh HF2]
     exact ⟨by rw [or3_T hE1b hV1b]; rfl,(Uh hBa).trans ((Uh HBR).mono (Uh hBa).size)⟩
set_option maxRecDepth 100000 in
set_option maxHeartbeats 16000000 in
theorem wfloat_TH (a b:Option Addr) (n c m d:Nat) (x y:List Nat) (w:World) (hx:Sl w a n c x) (hy:Sl w b m d y) (ox:Ok x) (oy:Ok y) (nx:a = none → c = 0) (k1:MayR true x y = true) (ex:x ≠ []) (hl:¬ bitsN x + 1074 < bitsN y + 54) :
  Calls Tryz.prog 57 #[ratV true a n c b m d] w fun e w' => e = .returned (.tuple #[.int .u64 ((9223372036854775808 + flN (bitsN x) (bitsN y) (val x) (val y):Nat):Int),.int .i64 0]) ∧ Below w.heap.size w w':=by
 have bx:=Box.made w true a n c b m d
 obtain ⟨wa,hwa⟩:∃ wa,ratBox w true a n c b m d = wa:=⟨_,rfl⟩
 rw [hwa] at bx
 unfold ratBox at hwa
 have hba:=bx.bel
 have p0:=bx.d0
 have p1:=bx.d1
 have p2:=bx.d2
 have K1:=wmay_any true a b n c m d x y wa (hx.below hba) (hy.below hba) ox oy
 rw [k1] at K1
 obtain ⟨kx,ky,ey,_,_⟩:=MayR.parts k1
 obtain ⟨x1,x2,x3,x4⟩:=bits_two ox kx ex
 obtain ⟨y1,y2,y3,y4⟩:=bits_two oy ky ey
 have hn:n ≤ 2048:=by have:=hx.len; have:=MayL.len kx; omega
 have hm:m ≤ 2048:=by have:=hy.len; have:=MayL.len ky; omega
 have hn0:((n:Int) == 0) = false:=by
  have h1:=hx.len
  have h2:x.length ≠ 0:=fun h => ex (List.length_eq_zero_iff.1 h)
  simp
  omega
 have hn1:¬ (n:Int) = 0:=by simpa using hn0
 have HLen:=Hd (rdE_len ox oy kx ky ey)
 have HBX:=Hd (fun (W:World) (hb:Below wa.heap.size wa W) => wbits_any a n c x W ((hx.below hba).below hb) ox (by omega))
 have HBY:=Hd (fun (W:World) (hb:Below wa.heap.size wa W) => wbits_any b m d y W ((hy.below hba).below hb) oy (by omega))
 have HKS:=Hd (fun (E:Nat) (hE:E ≤ 800000) (e:Int) (he:e = (E:Int) - 1074) (W:World) (hb:Below wa.heap.size wa W) => wscaled_E a b n c m d x y E W ((hx.below hba).below hb) nx ((hy.below hba).below hb) ox oy kx ky ey hE he)
 have HFE:=Hd (fun (E:Nat) h0 h1 h2 h3 => fl_end x1 x2 y1 y2 (E:=E) h0 h1 h2 h3)
 have HA:=Hd (fun (E:Nat) h0 h => rdE_A x1 x2 y1 y2 (E:=E) h0 h)
 have HB:=Hd (rdE_B x1 x2 y1 y2)
 have HC:=Hd (rdE_C x1 x2 y1 y2)
 have HU:=Hd (flU_le (q:=bitsN y) (X:=val x) (Y:=val y) x4)
 have hBa:=Hd hba
 have hk:=kB_eq
 obtain ⟨E0,hE0⟩:∃ E,bitsN x + kB - (bitsN y + 54) = E:=⟨_,rfl⟩
 have HE1:=Hd (show E0 ≤ flU (bitsN x) (bitsN y) (val x) (val y) from by unfold flU flG; split <;> omega)
 have hE2:E0 ≤ 70000:=by omega
 have te:((bitsN x:Nat):Int) - ((bitsN y:Nat):Int) - 54 = (E0:Int) - 1074:=by omega
 obtain ⟨P,hP⟩:∃ P,bitsN x = P:=⟨_,rfl⟩
 obtain ⟨Q,hQ⟩:∃ Q,bitsN y = Q:=⟨_,rfl⟩
 obtain ⟨X,hX⟩:∃ X,val x = X:=⟨_,rfl⟩
 obtain ⟨Y,hY⟩:∃ Y,val y = Y:=⟨_,rfl⟩
 rw [hP] at HBX
 rw [hQ] at HBY
 rw [hX,hY] at HLen HKS
 rw [hP,hQ,hX,hY] at HFE HA HB HC HU HE1 ⊢
 rw [hP,hQ] at hE0 hl
 rw [hP] at x4
 rw [hQ] at y4
 obtain ⟨FN,hFN⟩:∃ F,flN P Q X Y = F:=⟨_,rfl⟩
 rw [hFN] at HFE ⊢
 clear hFN
 rw [hP,hQ] at te
 have tl:¬ (E0:Int) - 1074 < -1074:=by omega
 have HE0:=Hd hE0
 have HK1:=Hd K1
 clear K1 hx hy bx hba nx kx ky ey ex x1 x2 x3 y1 y2 y3 hP hQ hX hY hE0 hk k1 hl
 unfold ratV at HK1 ⊢
 go_enter Tryz.func57,Tryz.ntmps57
 go_wp2_with fail
 refine (Uh HK1).mono ?_
 rintro _ w3 ⟨rfl,b3⟩
 have q0:=(ck b3 p0)
 have q1:=(ck b3 p1)
 have q2:=(ck b3 p2)
 have HB3:=Hd b3
 clear b3 HK1 p0 p1 p2
 have Fp1:=fun z:Ext w3 => z.cell q1
 have Fp2:=fun z:Ext w3 => z.cell q2
 have hNE:=Ext.ne w3
 go_wp2_with fail
 refine wp_region_ext (by kernel_rfl) (by kernel_rfl) ?_
 repeat (go_big_quiet_step (first
  | (go_at_call_of 110 (Value.slice a n c); rename_i z; exact Ext.call (Uh HBX z.w ((Uh HB3).trans (z.bel.mono (Uh HB3).size))) (fun e w' h => ⟨h.1,by rw [h.2]; exact Below.refl _ _⟩))
  | (go_at_call_of 110 (Value.slice b m d); rename_i z; exact Ext.call (Uh HBY z.w ((Uh HB3).trans (z.bel.mono (Uh HB3).size))) (fun e w' h => ⟨h.1,by rw [h.2]; exact Below.refl _ _⟩))))
 refine wpQuiet_nil ?_
 rintro _ ⟨xE,rfl⟩
 clear Fp1 Fp2 hNE
 have HBE:=Hd ((Uh HB3).trans (xE.bel.mono (Uh HB3).size))
 have r1:=xE.cell q1
 have r2:=xE.cell q2
 clear q0 q1 q2 HBX HBY
 have KS:=Uh HKS E0 (by omega) (((E0:Int) - 1074)) rfl xE.w (Uh HBE)
 have KS':=Hd KS
 clear KS
 go_wp2_with fail
 refine (Uh KS').mono ?_
 rintro _ w5 ⟨a5,m5,c5,rfl,s5,n5,z5,b5⟩
 have l5:m5 ≤ 10000:=by have h1:=Uh HLen E0; have h2:=s5.len; omega
 have t1:=(ck b5 r1)
 have t2:=(ck b5 r2)
 have HB5:=Hd ((Uh HBE).trans (b5.mono (Uh HBE).size))
 have HR0:=Hd (show FlR w5 w5 X Y P Q E0 a5 m5 c5 from ⟨s5,l5,(by have:=Uh HE0; omega),(by have:=Uh HE1; omega),(fun h => by have:=Uh HE1; omega),Below.refl _ _⟩)
 clear s5 n5 z5 b5 KS' r1 r2 HE1
 go_wp2_with fail
 go_loopw [5,6] (fun ev qv wr => ∃ E:Nat,∃ aq mq cq,E ≤ 70001 ∧ ev = .int .i64 ((E:Int) - 1074) ∧ qv = .slice aq mq cq ∧ Hid (FlR w5 wr X Y P Q E aq mq cq)) (fun ev _ _ => 70002 - (intOf ev + 1074).toNat)
 case atStart => exact ⟨E0,_,_,_,by omega,rfl,rfl,Uh HR0⟩
 case round =>
  clear HR0 l5
  obtain ⟨E,aq,mq,cq,hE,rfl,rfl,HR⟩:=hrel
  have u1:=(ck (Uh HR).bel t1)
  have u2:=(ck (Uh HR).bel t2)
  have HBR:=Hd ((Uh HB5).trans ((Uh HR).bel.mono (Uh HB5).size))
  have KB:=wbits_any aq mq cq (limbs (rdE X Y E)) wr (Uh HR).sq (limbs_ok _) (by have:=(Uh HR).len; omega)
  by_cases hbig:9007199254740992 ≤ rdE X Y E
  ·have hb:53 < bitsN (limbs (rdE X Y E)):=bits_ge.2 hbig
   obtain ⟨BV,hBV⟩:∃ B,bitsN (limbs (rdE X Y E)) = B:=⟨_,rfl⟩
   rw [hBV] at KB hb
   have tb:(53:Int) < (BV:Int):=by omega
   obtain ⟨E1,hE1⟩:∃ E1,E1 = E + 1:=⟨_,rfl⟩
   have te1:(E:Int) - 1074 + 1 = (E1:Int) - 1074:=by omega
   have hUle:=Uh HU
   have hEU:E ≤ flU P Q X Y:=by
    by_cases k:E = flU P Q X Y + 1
    ·have h1:=Uh HC ((Uh HR).h2 k)
     rw [← k] at h1
     omega
    ·have:=(Uh HR).h1; omega
   have hE1b:E1 ≤ 70001:=by omega
   have HN:=Hd (fun (w7:World) (a7:Option Addr) (m7 c7:Nat) (s7:Sl w7 a7 m7 c7 (limbs (rdE X Y E1))) (b7:Below wr.heap.size wr w7) => (show FlR w5 w7 X Y P Q E1 a7 m7 c7 from ⟨s7,(by have h1:=Uh HLen E1; have h2:=s7.len; omega),(by have:=(Uh HR).h0; omega),(by omega),(fun h => by
    have h3:E = flU P Q X Y:=by omega
    have h4:=Uh HB
    rw [h3] at hbig
    omega),(Uh HR).bel.trans (b7.mono (Uh HR).bel.size)⟩))
   have hlt:E < E1:=by omega
   have KS:=Uh HKS E1 (by omega) ((E1:Int) - 1074) rfl wr (Uh HBR)
   have HKS2:=Hd KS
   have HKB:=Hd KB
   clear KB KS hBV hbig hE1 hUle hEU hb
   go_wp2_with fail
   refine (Uh HKB).mono ?_
   rintro _ _ ⟨rfl,hw⟩
   obtain rfl:=hw.symm
   clear hw
   go_wp2_with fail
   refine (Uh HKS2).mono ?_
   rintro _ w7 ⟨a7,m7,c7,rfl,s7,n7,z7,b7⟩
   have HN7:=Hd (Uh HN w7 a7 m7 c7 s7 b7)
   clear s7 n7 z7 b7 HKS2 HN
   go_wp2_with fail
   exact ⟨⟨E1,_,_,_,by omega,by go_num,rfl,Uh HN7⟩,by simp [intOf]; omega⟩
  ·have hb:¬ 53 < bitsN (limbs (rdE X Y E)):=fun h => hbig (bits_ge.1 h)
   obtain ⟨BV,hBV⟩:∃ B,bitsN (limbs (rdE X Y E)) = B:=⟨_,rfl⟩
   rw [hBV] at KB hb
   have tb:¬ (53:Int) < (BV:Int):=by omega
   have hF:=Uh HFE E (Uh HR).h0 (Uh HR).h1 (Uh HR).h2 (by omega)
   have HKB:=Hd KB
   have hlen2:=limbs_len (show rdE X Y E < 4294967296 ^ 2 by omega)
   rw [(Uh HR).sq.len] at hlen2
   by_cases hinf:2045 < E
   ·have hF1:=Hd (hF.1 hinf)
    have ti:(971:Int) < (E:Int) - 1074:=by omega
    clear hF KB hBV hb hbig
    go_wp2_with fail
    refine (Uh HKB).mono ?_
    rintro _ _ ⟨rfl,hw⟩
    obtain rfl:=hw.symm
    clear hw
    go_wp2_with fail
    go_ret2
    rw [Uh hF1]
    exact ⟨rfl,(Uh hBa).trans ((Uh HBR).mono (Uh hBa).size)⟩
   ·obtain ⟨hF2,hF3⟩:=hF.2 (by omega)
    have ti:decide ((971:Int) < (E:Int) - 1074) = false:=by simp; omega
    have KM:=wsmall_any aq mq cq (limbs (rdE X Y E)) wr (Uh HR).sq (limbs_ok _) hlen2
    rw [limbs_v] at KM
    obtain ⟨V,hV⟩:∃ V,rdE X Y E = V:=⟨_,rfl⟩
    rw [hV] at KM hF2 hF3 hbig
    have HKM:=Hd KM
    have hV53:V < 9007199254740992:=by omega
    by_cases hsub:V < 4503599627370496
    ·have hE9:=hF3 hsub
     have HF2:=Hd (show 9223372036854775808 + FN = 9223372036854775808 + V from by rw [hF2,hE9]; omega)
     have hor:=or_top (v:=V) (by omega)
     clear hF KB hBV hb hbig hF2 hF3 hV hE9 KM hV53
     go_wp2_with fail
     refine (Uh HKB).mono ?_
     rintro _ _ ⟨rfl,hw⟩
     obtain rfl:=hw.symm
     clear hw
     go_wp2_with fail
     refine (Uh HKM).mono ?_
     rintro _ _ ⟨rfl,hw⟩
     obtain rfl:=hw.symm
     clear hw
     have ts:decide ((V:Int) < 4503599627370496) = true:=by simp; omega
     go_wp2_with fail
     go_ret2
     rw [Uh HF2]
     exact ⟨by (first | rfl | simp),(Uh hBa).trans ((Uh HBR).mono (Uh hBa).size)⟩
    ·obtain ⟨E1,hE1⟩:∃ E1,E1 = E + 1:=⟨_,rfl⟩
     obtain ⟨V1,hV1⟩:∃ V1,V1 = V - 4503599627370496:=⟨_,rfl⟩
     have HF2:=Hd (show 9223372036854775808 + FN = 9223372036854775808 + E1 * 4503599627370496 + V1 from by rw [hF2,hE1,hV1]; omega)
     have te1:(E:Int) - 1074 + 1075 = (E1:Int):=by omega
     have HV1:=Hd hV1
     have hE1b:E1 < 2047:=by omega
     have hV1b:V1 < 4503599627370496:=by omega
     clear hF KB hBV hb hbig hF2 hF3 hV KM hE1 hV1
     go_wp2_with fail
     refine (Uh HKB).mono ?_
     rintro _ _ ⟨rfl,hw⟩
     obtain rfl:=hw.symm
     clear hw
     go_wp2_with fail
     refine (Uh HKM).mono ?_
     rintro _ _ ⟨rfl,hw⟩
     obtain rfl:=hw.symm
     clear hw
     have ts:decide ((V:Int) < 4503599627370496) = false:=by simp; omega
     have t53:((V:Int) == 9007199254740992) = false:=by simp; omega
     have tv1:(V:Int) - 4503599627370496 = (V1:Int):=by have:=Uh HV1; omega
     clear hsub hV53
     go_wp2_with fail
     go_ret2
     rw [Uh HF2]
     exact ⟨by rw [or3_T hE1b hV1b]; rfl,(Uh hBa).trans ((Uh HBR).mono (Uh hBa).size)⟩
end Go.Proofs.YtlolnaegfponeaaGreatDoor
