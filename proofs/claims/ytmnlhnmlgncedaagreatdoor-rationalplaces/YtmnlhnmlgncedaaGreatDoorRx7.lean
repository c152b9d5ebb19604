/- Rx7 -/
import Derived.Test.YtmnlhnmlgncedaaGreatDoorMy2
import Derived.Test.YtmnlhnmlgncedaaGreatDoorWip
import Derived.Test.YtmnlhnmlgncedaaGreatDoorWi9
import Derived.Test.YtmnlhnmlgncedaaGreatDoorWi5
import Derived.Test.YtmnlhnmlgncedaaGreatDoorDv7
import Derived.Deep.RegionHeld3
namespace Go.Proofs.YtmnlhnmlgncedaaGreatDoor
open Go.RowKit Go.Deep
set_option linter.unusedVariables false
theorem small_wide {w:World} {a:Option Addr} {n c p q:Nat} {ps:List Pc} (h:Wide w a n c (p * q) ps) (hp:p < wD * wD) (hq:q < wD * wD):n ≤ 10:=by
 refine wide_len10 h ?_
 have h0:=wD_pos
 have h1:p * q < wD * wD * (wD * wD):=Nat.mul_lt_mul'' hp hq
 have e5:wD ^ 5 = wD * (wD * wD * (wD * wD)):=by rw [Nat.pow_succ,Nat.mul_comm]; simp only [Nat.pow_succ,Nat.pow_zero,Nat.one_mul,Nat.mul_assoc]
 rw [e5]
 exact Nat.lt_of_lt_of_le h1 (Nat.le_mul_of_pos_left _ h0)
theorem cmp_eq {a b:Nat} (ha:MayL (limbs a) = true) (hb:MayL (limbs b) = true):cmpL (limbs a) (limbs b) = cmpN a b:=by unfold cmpL; rw [ha,hb]; simp [limbs_v]
theorem cmpN_same {a b:Nat} (h:a = b):cmpN a b = 0:=by unfold cmpN; subst h; simp
theorem cmpN_ne {a b:Nat} (h:a ≠ b):cmpN a b ≠ 0:=by unfold cmpN; split <;> (try split) <;> omega

set_option maxRecDepth 100000 in
set_option maxHeartbeats 16000000 in
theorem rtp_zN (g:Bool) (a b:Option Addr) (n c m d:Nat) (x y:List Nat) (k:Nat) (w:World) (hx:Sl w a n c x) (hy:Sl w b m d y) (ox:Ok x) (oy:Ok y) (kx:MayL x = true) (ky:MayL y = true) (ey:y ≠ []) (hk:k ≤ 1000) (hz:k = 0) (hup:(decide (val y < val x % val y * 10 ^ k % val y + val x % val y * 10 ^ k % val y) || (decide (val y = val x % val y * 10 ^ k % val y + val x % val y * 10 ^ k % val y) && decide ((val x / val y) % 2 = 1))) = false) :
  Calls Tryz.prog 48 #[ratV g a n c b m d,.int .i64 (k:Nat)] w fun e w' => RpPost w w' (val x) (val y) (10 ^ k) e:=by
 have bx:=Box.made w g a n c b m d
 obtain ⟨wa,hwa⟩:∃ wa,ratBox w g a n c b m d = wa:=⟨_,rfl⟩
 rw [hwa] at bx
 unfold ratBox at hwa
 have hba:=bx.bel
 have p1:=bx.d1
 have p2:=bx.d2
 have vy:=val_pos_of_may ky ey
 have hdv:divL x y = (limbs (val x / val y),limbs (val x % val y),0):=by
  unfold divL
  rw [kx,ky]
  simp [ey]
 have hU:0 < 10 ^ k:=Nat.pow_pos (by decide)
 have hB0:=rp_lt (X:=val x) vy hU
 have mA:MayL (limbs (val x / val y)) = true:=may_div kx ox _
 have ml:MayL (limbs (val x % val y)) = true:=may_small ky oy (Nat.le_of_lt (Nat.mod_lt _ vy))
 have mU:MayL (limbs (10 ^ k)) = true:=ten_may (by omega)
 have mB:MayL (limbs (val x % val y * 10 ^ k / val y)) = true:=MayL.mk (limbs_norm _) (by have:=ten_len (Nat.le_of_lt hB0); omega)
 have mB1:MayL (limbs (val x % val y * 10 ^ k / val y + 1)) = true:=MayL.mk (limbs_norm _) (by have:=ten_len (show val x % val y * 10 ^ k / val y + 1 ≤ 10 ^ k from hB0); omega)
 have ml1:MayL (limbs (val x % val y * 10 ^ k % val y)) = true:=may_small ky oy (Nat.le_of_lt (Nat.mod_lt _ vy))
 have hl1:=Nat.le_of_lt (Nat.mod_lt (val x % val y * 10 ^ k) vy)
 have hfin:=rp_fin (X:=val x) (U:=10 ^ k) vy (rp_odd0 hz) hup
 have wl:=may_lt ml (limbs_ok _)
 have wu:=may_lt mU (limbs_ok _)
 rw [limbs_v] at wl wu
 have HKT:=Hj (tenTo_any k hk wa)
 have KD:∀ (W:World),Below wa.heap.size wa W → Calls Tryz.prog 38 #[.slice a n c,.slice b m d] W _:=fun W hb => ndivmod_any a b n c m d x y W ((hx.below hba).below hb) ((hy.below hba).below hb) ox oy
 rw [hdv] at KD
 try dsimp only at KD
 obtain ⟨X,hX⟩:∃ X,val x = X:=⟨_,rfl⟩
 obtain ⟨Y,hY⟩:∃ Y,val y = Y:=⟨_,rfl⟩
 obtain ⟨U,hUe⟩:∃ U,10 ^ k = U:=⟨_,rfl⟩
 rw [hX,hY] at KD mA ml hup hfin wl
 rw [hX,hY,hUe] at mB mB1 ml1 hl1 hB0
 rw [hUe] at hup hfin mU wu hU HKT
 rw [hX,hY,hUe]
 rw [hY] at vy
 have HYv:=Hj hY
 have HF:=Hj (And.intro hfin (And.intro hB0 (And.intro hU (And.intro mA (And.intro mB1 mB)))))
 have HMs:=Hj (And.intro mA (And.intro ml (And.intro mU (And.intro mB (And.intro mB1 ml1)))))
 have HWs:=Hj (And.intro wl wu)
 have HYs:=Hj (And.intro (hy.below hba) (And.intro ky ey))
 have HL1:=Hj hl1
 have HKD:=Hj KD
 have HBa:=Hj hba
 have HZ:=Hj hz
 have tz:((k:Int) == 0) = true:=by simp [hz]
 have tz2:decide ((k:Int) = 0) = true:=by simp [hz]
 obtain ⟨OD,hOD⟩:∃ o:Bool,decide ((X / Y) % 2 = 1) = o:=⟨_,rfl⟩
 rw [hOD] at hup
 obtain ⟨ob,hob⟩:∃ o:Nat,bitN (X / Y) 0 = o:=⟨_,rfl⟩
 have hob2:decide ((ob:Int) = 1) = OD:=by rw [← hOD,← hob]; unfold bitN; rw [Nat.pow_zero,Nat.div_one]; congr 1; exact propext (by omega)
 have hob3:((ob:Int) == 1) = OD:=by rw [← hob2]; exact (Bool.beq_eq_decide_eq _ _)
 have HOb:=Hj hob
 have HUp:=Hj hup
 clear hOD hob hup hX hY hUe KD hdv hx hy kx ky ey mA ml mU mB mB1 ml1 hl1 hfin wl wu hB0 hU vy bx hba hz
 unfold ratV
 go_enter Tryz.func48,Tryz.ntmps48
 go_wp2_with fail
 refine (Uh HKT).mono ?_
 rintro _ w1 ⟨au,mu,cu,rfl,su,nu,b1⟩
 have f1:=(ck b1 p1); have f2:=(ck b1 p2)
 have HB1:=Hj b1
 have SU:=Hj su
 clear su nu b1 HKT p1 p2
 go_wp2_with fail
 refine (sure_any _ _ _).mono ?_
 rintro _ _ ⟨rfl,hw⟩
 obtain rfl:=hw.symm
 clear hw
 go_wp2_with fail
 refine (Uh HKD _ (Uh HB1)).mono ?_
 rintro _ w2 ⟨aq,mq,cq,al,ml,cl,rfl,sq,nq,sl,nl,_,b2⟩
 have h1:=(ck b2 f1); have h2:=(ck b2 f2)
 have HB2:=Hj ((Uh HB1).trans (b2.mono (Uh HB1).size))
 have S2:=Hj (And.intro sq (And.intro sl ((Uh SU).below b2)))
 clear sq nq sl nl b2 HKD f1 f2 HB1 SU
 have HKP:=Hj (fun (W:World) (hb:Below w2.heap.size w2 W) => product_any al au ml cl mu cu (limbs (X % Y)) (limbs U) W ((Uh S2).2.1.below hb) ((Uh S2).2.2.below hb) (limbs_ok _) (limbs_ok _) (Uh HMs).2.1 (Uh HMs).2.2.1)
 rw [limbs_v,limbs_v] at HKP
 go_wp2_with fail
 go_region_held3 (fun w' => w'.cell? ⟨w.heap.size,1,none⟩ = some (.slice a n c) ∧ w'.cell? ⟨w.heap.size,2,none⟩ = some (.slice b m d)) (first | go_keep | (exact ⟨k1,k2⟩) | (exact ⟨j1,j2⟩))
  (first
   | (go_at_call 86; refine (Uh HKP _ (Below.refl _ _).drew).mono ?_; rintro _ w3 ⟨ap,np,cp,pps,rfl,hWp,_,b3⟩; have hb3:Below w2.heap.size w2 w3:=(Below.refl _ _).drew.trans b3; have k1:=(ck hb3 h1); have k2:=(ck hb3 h2); have HP:=Hj (And.intro hWp (small_wide hWp (Uh HWs).1 (Uh HWs).2)); have HB3:=Hj hb3; clear hWp b3 hb3)
   | (go_at_call 95; refine (by_any w3 w3 ap np cp (X % Y * U) pps b m d y (Below.refl _ _) (Uh HP).1 (Uh HP).2 (((Uh HYs).1.below (Uh HB2)).below (Uh HB3)) oy (Uh HYs).2.1 (Uh HYs).2.2).mono ?_; rintro _ w4 ⟨aw,nw,cw,pws,ar,mr,cr,rfl,hWw,_,sr,b4⟩; have j1:=(ck b4 k1); have j2:=(ck b4 k2); rw [Uh HYv] at hWw sr; have HB4:=Hj ((Uh HB3).trans (b4.mono (Uh HB3).size)); have S4:=Hj (And.intro hWw sr); clear hWw sr b4))
 have HB5:=Hj ((Uh HB2).trans ((Uh HB4).mono (Uh HB2).size))
 have S5:=Hj (And.intro ((Uh S2).1.below (Uh HB4)) (And.intro ((Uh S2).2.2.below (Uh HB4)) (Uh S4).2))
 have KN:=narrow_any aw nw cw _ pws w4 (Uh S4).1
 rw [show fitL (X % Y * U / Y) = (limbs (X % Y * U / Y),0) from fitL_ok (by have:=MayL.len (Uh HMs).2.2.2.1; omega)] at KN
 have HKN:=Hj KN
 clear KN HKP HP HB3 HB4 S4 S2 HB2 h1 h2 k1 k2
 try go_wp2_with fail
 refine (Uh HKN).mono ?_
 rintro _ w5 ⟨ab,mb,cb,rfl,sb,nb,b5⟩
 have i1:=(ck b5 j1); have i2:=(ck b5 j2)
 have HB6:=Hj ((Uh HB5).trans (b5.mono (Uh HB5).size))
 have S6:=Hj (And.intro ((Uh S5).1.below b5) (And.intro ((Uh S5).2.1.below b5) (And.intro ((Uh S5).2.2.below b5) sb)))
 clear sb nb b5 HKN HB5 S5 j1 j2
 go_wp2_with fail
 refine (sure_any _ _ _).mono ?_
 rintro _ _ ⟨rfl,hw⟩
 obtain rfl:=hw.symm
 clear hw
 have KB:=nbit_any aq mq cq (limbs (X / Y)) 0 w5.drew ((Uh S6).1.below (Below.refl _ _).drew) (limbs_ok _) (Uh HMs).1 (by omega)
 rw [limbs_v,Uh HOb] at KB
 have HKB:=Hj KB
 have HKU:=Hj (fun (W:World) (hb:Below w5.heap.size w5 W) => roundsUp_any ar b mr cr m d (limbs (X % Y * U % Y)) y OD W ((Uh S6).2.2.1.below hb) (((Uh HYs).1.below (Uh HB6)).below hb) (limbs_ok _) oy (Uh HMs).2.2.2.2.2 (Uh HYs).2.1 (by rw [limbs_v,Uh HYv]; exact Uh HL1))
 rw [limbs_v,Uh HYv,Uh HUp] at HKU
 clear KB
 go_wp2_with fail
 go_region_held3 (fun w' => w'.cell? ⟨w.heap.size,1,none⟩ = some (.slice a n c) ∧ w'.cell? ⟨w.heap.size,2,none⟩ = some (.slice b m d)) (first | go_keep | (exact ⟨k1,k2⟩))
  (first
   | (go_at_call 98; refine (Uh HKB).mono ?_; rintro _ _ ⟨rfl,hw⟩; obtain rfl:=hw.symm; clear hw)
   | (go_at_call 97; refine (Uh HKU _ (Below.refl _ _).drew).mono ?_; rintro _ w6 ⟨rfl,b6⟩; have hb6:Below w5.heap.size w5 w6:=(Below.refl _ _).drew.trans b6; have k1:=(ck hb6 i1); have k2:=(ck hb6 i2); have HB7:=Hj hb6; clear b6 hb6))
 have HB8:=Hj ((Uh HB6).trans ((Uh HB7).mono (Uh HB6).size))
 have S8:=Hj (And.intro ((Uh S6).1.below (Uh HB7)) (And.intro ((Uh S6).2.1.below (Uh HB7)) ((Uh S6).2.2.2.below (Uh HB7))))
 clear HKB HKU HB7 S6 HB6 i1 i2
 have HB9:=HB8
 have S9:=S8
 clear HB8 S8
 have KC:=ncmp_any ab au mb cb mu cu (limbs (X % Y * U / Y)) (limbs U) w6 (Uh S9).2.2 (Uh S9).2.1 (limbs_ok _) (limbs_ok _)
 rw [cmp_eq (Uh HMs).2.2.2.1 (Uh HMs).2.2.1] at KC
 have hcn:=cmpN_ne (a:=X % Y * U / Y) (b:=U) (by have:=(Uh HF).2.1; omega)
 obtain ⟨CV,hCV⟩:∃ v,cmpN (X % Y * U / Y) U = v:=⟨_,rfl⟩
 rw [hCV] at KC hcn
 have tc1:(CV == 0) = false:=by simp [hcn]
 clear hCV
 have HKC:=Hj KC
 clear KC
 go_wp2_with fail
 refine (Uh HKC).mono ?_
 rintro _ _ ⟨rfl,jj,rfl⟩
 clear HKC
 go_wp2_with fail
 go_ret2
 have hb9:=bel_drewN (Uh HB9) jj
 obtain ⟨f1,f2,f3,f4,f5,f6⟩:=Uh HF
 refine ⟨aq,mq,cq,ab,mb,cb,X / Y,X % Y * U / Y,rfl,⟨(Uh S9).1.drewN jj,(Uh S9).2.2.drewN jj⟩,⟨?_,f2⟩,⟨f4,f6⟩,(Uh HBa).trans (hb9.mono (Uh HBa).size)⟩
 rw [f1]
 simp
set_option maxRecDepth 100000 in
set_option maxHeartbeats 16000000 in
theorem rtp_zU (g:Bool) (a b:Option Addr) (n c m d:Nat) (x y:List Nat) (k:Nat) (w:World) (hx:Sl w a n c x) (hy:Sl w b m d y) (ox:Ok x) (oy:Ok y) (kx:MayL x = true) (ky:MayL y = true) (ey:y ≠ []) (hk:k ≤ 1000) (hz:k = 0) (hup:(decide (val y < val x % val y * 10 ^ k % val y + val x % val y * 10 ^ k % val y) || (decide (val y = val x % val y * 10 ^ k % val y + val x % val y * 10 ^ k % val y) && decide ((val x / val y) % 2 = 1))) = true) (hc:val x % val y * 10 ^ k / val y + 1 = 10 ^ k) :
  Calls Tryz.prog 48 #[ratV g a n c b m d,.int .i64 (k:Nat)] w fun e w' => RpPost w w' (val x) (val y) (10 ^ k) e:=by
 have bx:=Box.made w g a n c b m d
 obtain ⟨wa,hwa⟩:∃ wa,ratBox w g a n c b m d = wa:=⟨_,rfl⟩
 rw [hwa] at bx
 unfold ratBox at hwa
 have hba:=bx.bel
 have p1:=bx.d1
 have p2:=bx.d2
 have vy:=val_pos_of_may ky ey
 have hdv:divL x y = (limbs (val x / val y),limbs (val x % val y),0):=by
  unfold divL
  rw [kx,ky]
  simp [ey]
 have hU:0 < 10 ^ k:=Nat.pow_pos (by decide)
 have hB0:=rp_lt (X:=val x) vy hU
 have mA:MayL (limbs (val x / val y)) = true:=may_div kx ox _
 have ml:MayL (limbs (val x % val y)) = true:=may_small ky oy (Nat.le_of_lt (Nat.mod_lt _ vy))
 have mU:MayL (limbs (10 ^ k)) = true:=ten_may (by omega)
 have mB:MayL (limbs (val x % val y * 10 ^ k / val y)) = true:=MayL.mk (limbs_norm _) (by have:=ten_len (Nat.le_of_lt hB0); omega)
 have mB1:MayL (limbs (val x % val y * 10 ^ k / val y + 1)) = true:=MayL.mk (limbs_norm _) (by have:=ten_len (show val x % val y * 10 ^ k / val y + 1 ≤ 10 ^ k from hB0); omega)
 have ml1:MayL (limbs (val x % val y * 10 ^ k % val y)) = true:=may_small ky oy (Nat.le_of_lt (Nat.mod_lt _ vy))
 have hl1:=Nat.le_of_lt (Nat.mod_lt (val x % val y * 10 ^ k) vy)
 have hfin:=rp_fin (X:=val x) (U:=10 ^ k) vy (rp_odd0 hz) hup
 have mA1:MayL (limbs (val x / val y + 1)) = true:=may_small kx ox (incr_fit vy (rp_left vy hU hc hup))
 have wl:=may_lt ml (limbs_ok _)
 have wu:=may_lt mU (limbs_ok _)
 rw [limbs_v] at wl wu
 have HKT:=Hj (tenTo_any k hk wa)
 have KD:∀ (W:World),Below wa.heap.size wa W → Calls Tryz.prog 38 #[.slice a n c,.slice b m d] W _:=fun W hb => ndivmod_any a b n c m d x y W ((hx.below hba).below hb) ((hy.below hba).below hb) ox oy
 rw [hdv] at KD
 try dsimp only at KD
 obtain ⟨X,hX⟩:∃ X,val x = X:=⟨_,rfl⟩
 obtain ⟨Y,hY⟩:∃ Y,val y = Y:=⟨_,rfl⟩
 obtain ⟨U,hUe⟩:∃ U,10 ^ k = U:=⟨_,rfl⟩
 rw [hX,hY] at KD mA ml hup hfin wl
 rw [hX,hY,hUe] at mB mB1 ml1 hl1 hB0
 rw [hUe] at hup hfin mU wu hU HKT
 rw [hX,hY,hUe]
 rw [hY] at vy
 rw [hX,hY,hUe] at hc
 rw [hX,hY] at mA1
 have HYv:=Hj hY
 have HF:=Hj (And.intro hfin (And.intro hB0 (And.intro hU (And.intro mA1 (And.intro mB1 mB)))))
 have HMs:=Hj (And.intro mA (And.intro ml (And.intro mU (And.intro mB (And.intro mB1 ml1)))))
 have HWs:=Hj (And.intro wl wu)
 have HYs:=Hj (And.intro (hy.below hba) (And.intro ky ey))
 have HL1:=Hj hl1
 have HKD:=Hj KD
 have HBa:=Hj hba
 have HC:=Hj hc
 have HZ:=Hj hz
 have tz:((k:Int) == 0) = true:=by simp [hz]
 have tz2:decide ((k:Int) = 0) = true:=by simp [hz]
 obtain ⟨OD,hOD⟩:∃ o:Bool,decide ((X / Y) % 2 = 1) = o:=⟨_,rfl⟩
 rw [hOD] at hup
 obtain ⟨ob,hob⟩:∃ o:Nat,bitN (X / Y) 0 = o:=⟨_,rfl⟩
 have hob2:decide ((ob:Int) = 1) = OD:=by rw [← hOD,← hob]; unfold bitN; rw [Nat.pow_zero,Nat.div_one]; congr 1; exact propext (by omega)
 have hob3:((ob:Int) == 1) = OD:=by rw [← hob2]; exact (Bool.beq_eq_decide_eq _ _)
 have HOb:=Hj hob
 have HUp:=Hj hup
 clear hOD hob hup hX hY hUe KD hdv hx hy kx ky ey mA ml mU mB mB1 ml1 hl1 hfin wl wu hB0 hU vy bx hba hz hc mA1
 unfold ratV
 go_enter Tryz.func48,Tryz.ntmps48
 go_wp2_with fail
 refine (Uh HKT).mono ?_
 rintro _ w1 ⟨au,mu,cu,rfl,su,nu,b1⟩
 have f1:=(ck b1 p1); have f2:=(ck b1 p2)
 have HB1:=Hj b1
 have SU:=Hj su
 clear su nu b1 HKT p1 p2
 go_wp2_with fail
 refine (sure_any _ _ _).mono ?_
 rintro _ _ ⟨rfl,hw⟩
 obtain rfl:=hw.symm
 clear hw
 go_wp2_with fail
 refine (Uh HKD _ (Uh HB1)).mono ?_
 rintro _ w2 ⟨aq,mq,cq,al,ml,cl,rfl,sq,nq,sl,nl,_,b2⟩
 have h1:=(ck b2 f1); have h2:=(ck b2 f2)
 have HB2:=Hj ((Uh HB1).trans (b2.mono (Uh HB1).size))
 have S2:=Hj (And.intro sq (And.intro sl ((Uh SU).below b2)))
 clear sq nq sl nl b2 HKD f1 f2 HB1 SU
 have HKP:=Hj (fun (W:World) (hb:Below w2.heap.size w2 W) => product_any al au ml cl mu cu (limbs (X % Y)) (limbs U) W ((Uh S2).2.1.below hb) ((Uh S2).2.2.below hb) (limbs_ok _) (limbs_ok _) (Uh HMs).2.1 (Uh HMs).2.2.1)
 rw [limbs_v,limbs_v] at HKP
 go_wp2_with fail
 go_region_held3 (fun w' => w'.cell? ⟨w.heap.size,1,none⟩ = some (.slice a n c) ∧ w'.cell? ⟨w.heap.size,2,none⟩ = some (.slice b m d)) (first | go_keep | (exact ⟨k1,k2⟩) | (exact ⟨j1,j2⟩))
  (first
   | (go_at_call 86; refine (Uh HKP _ (Below.refl _ _).drew).mono ?_; rintro _ w3 ⟨ap,np,cp,pps,rfl,hWp,_,b3⟩; have hb3:Below w2.heap.size w2 w3:=(Below.refl _ _).drew.trans b3; have k1:=(ck hb3 h1); have k2:=(ck hb3 h2); have HP:=Hj (And.intro hWp (small_wide hWp (Uh HWs).1 (Uh HWs).2)); have HB3:=Hj hb3; clear hWp b3 hb3)
   | (go_at_call 95; refine (by_any w3 w3 ap np cp (X % Y * U) pps b m d y (Below.refl _ _) (Uh HP).1 (Uh HP).2 (((Uh HYs).1.below (Uh HB2)).below (Uh HB3)) oy (Uh HYs).2.1 (Uh HYs).2.2).mono ?_; rintro _ w4 ⟨aw,nw,cw,pws,ar,mr,cr,rfl,hWw,_,sr,b4⟩; have j1:=(ck b4 k1); have j2:=(ck b4 k2); rw [Uh HYv] at hWw sr; have HB4:=Hj ((Uh HB3).trans (b4.mono (Uh HB3).size)); have S4:=Hj (And.intro hWw sr); clear hWw sr b4))
 have HB5:=Hj ((Uh HB2).trans ((Uh HB4).mono (Uh HB2).size))
 have S5:=Hj (And.intro ((Uh S2).1.below (Uh HB4)) (And.intro ((Uh S2).2.2.below (Uh HB4)) (Uh S4).2))
 have KN:=narrow_any aw nw cw _ pws w4 (Uh S4).1
 rw [show fitL (X % Y * U / Y) = (limbs (X % Y * U / Y),0) from fitL_ok (by have:=MayL.len (Uh HMs).2.2.2.1; omega)] at KN
 have HKN:=Hj KN
 clear KN HKP HP HB3 HB4 S4 S2 HB2 h1 h2 k1 k2
 try go_wp2_with fail
 refine (Uh HKN).mono ?_
 rintro _ w5 ⟨ab,mb,cb,rfl,sb,nb,b5⟩
 have i1:=(ck b5 j1); have i2:=(ck b5 j2)
 have HB6:=Hj ((Uh HB5).trans (b5.mono (Uh HB5).size))
 have S6:=Hj (And.intro ((Uh S5).1.below b5) (And.intro ((Uh S5).2.1.below b5) (And.intro ((Uh S5).2.2.below b5) sb)))
 clear sb nb b5 HKN HB5 S5 j1 j2
 go_wp2_with fail
 refine (sure_any _ _ _).mono ?_
 rintro _ _ ⟨rfl,hw⟩
 obtain rfl:=hw.symm
 clear hw
 have KB:=nbit_any aq mq cq (limbs (X / Y)) 0 w5.drew ((Uh S6).1.below (Below.refl _ _).drew) (limbs_ok _) (Uh HMs).1 (by omega)
 rw [limbs_v,Uh HOb] at KB
 have HKB:=Hj KB
 have HKU:=Hj (fun (W:World) (hb:Below w5.heap.size w5 W) => roundsUp_any ar b mr cr m d (limbs (X % Y * U % Y)) y OD W ((Uh S6).2.2.1.below hb) (((Uh HYs).1.below (Uh HB6)).below hb) (limbs_ok _) oy (Uh HMs).2.2.2.2.2 (Uh HYs).2.1 (by rw [limbs_v,Uh HYv]; exact Uh HL1))
 rw [limbs_v,Uh HYv,Uh HUp] at HKU
 clear KB
 go_wp2_with fail
 go_region_held3 (fun w' => w'.cell? ⟨w.heap.size,1,none⟩ = some (.slice a n c) ∧ w'.cell? ⟨w.heap.size,2,none⟩ = some (.slice b m d)) (first | go_keep | (exact ⟨k1,k2⟩))
  (first
   | (go_at_call 98; refine (Uh HKB).mono ?_; rintro _ _ ⟨rfl,hw⟩; obtain rfl:=hw.symm; clear hw)
   | (go_at_call 97; refine (Uh HKU _ (Below.refl _ _).drew).mono ?_; rintro _ w6 ⟨rfl,b6⟩; have hb6:Below w5.heap.size w5 w6:=(Below.refl _ _).drew.trans b6; have k1:=(ck hb6 i1); have k2:=(ck hb6 i2); have HB7:=Hj hb6; clear b6 hb6))
 have HB8:=Hj ((Uh HB6).trans ((Uh HB7).mono (Uh HB6).size))
 have S8:=Hj (And.intro ((Uh S6).1.below (Uh HB7)) (And.intro ((Uh S6).2.1.below (Uh HB7)) ((Uh S6).2.2.2.below (Uh HB7))))
 clear HKB HKU HB7 S6 HB6 i1 i2
 have HKI:=Hj (ratIncr_any ab mb cb (X % Y * U / Y) w6 (Uh S8).2.2 (Uh HMs).2.2.2.1 (MayL.len (Uh HMs).2.2.2.2.1))
 go_wp2_with fail
 refine (Uh HKI).mono ?_
 rintro _ w7 ⟨ai,mi,ci,rfl,si,ni,b7⟩
 have HB9:=Hj ((Uh HB8).trans (b7.mono (Uh HB8).size))
 have S9:=Hj (And.intro ((Uh S8).1.below b7) (And.intro ((Uh S8).2.1.below b7) si))
 clear si ni b7 HKI HB8 S8 k1 k2
 have KC:=ncmp_any ai au mi ci mu cu (limbs (X % Y * U / Y + 1)) (limbs U) w7 (Uh S9).2.2 (Uh S9).2.1 (limbs_ok _) (limbs_ok _)
 rw [cmp_eq (Uh HMs).2.2.2.2.1 (Uh HMs).2.2.1] at KC
 rw [cmpN_same (Uh HC)] at KC
 have HKC:=Hj KC
 clear KC
 go_wp2_with fail
 refine (Uh HKC).mono ?_
 rintro _ _ ⟨rfl,jj,rfl⟩
 clear HKC
 have HKA:=Hj (ratIncr_any aq mq cq (X / Y) _ ((Uh S9).1.drewN jj) (Uh HMs).1 (MayL.len (Uh HF).2.2.2.1))
 go_wp2_with fail
 refine (Uh HKA).mono ?_
 rintro _ w8 ⟨ag,mg,cg,rfl,sg,ng,b8⟩
 have HG:=Hj (And.intro sg b8)
 clear sg ng b8 HKA
 go_wp2_with fail
 go_ret2
 have hb9:=bel_drewN (Uh HB9) jj
 obtain ⟨f1,f2,f3,f4,f5,f6⟩:=Uh HF
 refine ⟨ag,mg,cg,none,0,0,X / Y + 1,0,rfl,⟨(Uh HG).1,by rw [limbs_zero]; exact sl_nil _⟩,⟨?_,f3⟩,⟨f4,by rw [limbs_zero]; decide⟩,?_⟩
 ·rw [f1]; simp only [if_true]; rw [Uh HC,Nat.add_mul,Nat.one_mul,Nat.add_zero]
 ·exact ((Uh HBa).trans (hb9.mono (Uh HBa).size)).trans ((Uh HG).2.mono (Nat.le_trans (Uh HBa).size hb9.size))
set_option maxRecDepth 100000 in
set_option maxHeartbeats 16000000 in
theorem rtp_zL (g:Bool) (a b:Option Addr) (n c m d:Nat) (x y:List Nat) (k:Nat) (w:World) (hx:Sl w a n c x) (hy:Sl w b m d y) (ox:Ok x) (oy:Ok y) (kx:MayL x = true) (ky:MayL y = true) (ey:y ≠ []) (hk:k ≤ 1000) (hz:k = 0) (hup:(decide (val y < val x % val y * 10 ^ k % val y + val x % val y * 10 ^ k % val y) || (decide (val y = val x % val y * 10 ^ k % val y + val x % val y * 10 ^ k % val y) && decide ((val x / val y) % 2 = 1))) = true) (hc:val x % val y * 10 ^ k / val y + 1 ≠ 10 ^ k) :
  Calls Tryz.prog 48 #[ratV g a n c b m d,.int .i64 (k:Nat)] w fun e w' => RpPost w w' (val x) (val y) (10 ^ k) e:=by
 have bx:=Box.made w g a n c b m d
 obtain ⟨wa,hwa⟩:∃ wa,ratBox w g a n c b m d = wa:=⟨_,rfl⟩
 rw [hwa] at bx
 unfold ratBox at hwa
 have hba:=bx.bel
 have p1:=bx.d1
 have p2:=bx.d2
 have vy:=val_pos_of_may ky ey
 have hdv:divL x y = (limbs (val x / val y),limbs (val x % val y),0):=by
  unfold divL
  rw [kx,ky]
  simp [ey]
 have hU:0 < 10 ^ k:=Nat.pow_pos (by decide)
 have hB0:=rp_lt (X:=val x) vy hU
 have mA:MayL (limbs (val x / val y)) = true:=may_div kx ox _
 have ml:MayL (limbs (val x % val y)) = true:=may_small ky oy (Nat.le_of_lt (Nat.mod_lt _ vy))
 have mU:MayL (limbs (10 ^ k)) = true:=ten_may (by omega)
 have mB:MayL (limbs (val x % val y * 10 ^ k / val y)) = true:=MayL.mk (limbs_norm _) (by have:=ten_len (Nat.le_of_lt hB0); omega)
 have mB1:MayL (limbs (val x % val y * 10 ^ k / val y + 1)) = true:=MayL.mk (limbs_norm _) (by have:=ten_len (show val x % val y * 10 ^ k / val y + 1 ≤ 10 ^ k from hB0); omega)
 have ml1:MayL (limbs (val x % val y * 10 ^ k % val y)) = true:=may_small ky oy (Nat.le_of_lt (Nat.mod_lt _ vy))
 have hl1:=Nat.le_of_lt (Nat.mod_lt (val x % val y * 10 ^ k) vy)
 have hfin:=rp_fin (X:=val x) (U:=10 ^ k) vy (rp_odd0 hz) hup
 have wl:=may_lt ml (limbs_ok _)
 have wu:=may_lt mU (limbs_ok _)
 rw [limbs_v] at wl wu
 have HKT:=Hj (tenTo_any k hk wa)
 have KD:∀ (W:World),Below wa.heap.size wa W → Calls Tryz.prog 38 #[.slice a n c,.slice b m d] W _:=fun W hb => ndivmod_any a b n c m d x y W ((hx.below hba).below hb) ((hy.below hba).below hb) ox oy
 rw [hdv] at KD
 try dsimp only at KD
 obtain ⟨X,hX⟩:∃ X,val x = X:=⟨_,rfl⟩
 obtain ⟨Y,hY⟩:∃ Y,val y = Y:=⟨_,rfl⟩
 obtain ⟨U,hUe⟩:∃ U,10 ^ k = U:=⟨_,rfl⟩
 rw [hX,hY] at KD mA ml hup hfin wl
 rw [hX,hY,hUe] at mB mB1 ml1 hl1 hB0
 rw [hUe] at hup hfin mU wu hU HKT
 rw [hX,hY,hUe]
 rw [hY] at vy
 rw [hX,hY,hUe] at hc
 have HYv:=Hj hY
 have HF:=Hj (And.intro hfin (And.intro hB0 (And.intro hU (And.intro mA (And.intro mB1 mB)))))
 have HMs:=Hj (And.intro mA (And.intro ml (And.intro mU (And.intro mB (And.intro mB1 ml1)))))
 have HWs:=Hj (And.intro wl wu)
 have HYs:=Hj (And.intro (hy.below hba) (And.intro ky ey))
 have HL1:=Hj hl1
 have HKD:=Hj KD
 have HBa:=Hj hba
 have HC:=Hj hc
 have HZ:=Hj hz
 have tz:((k:Int) == 0) = true:=by simp [hz]
 have tz2:decide ((k:Int) = 0) = true:=by simp [hz]
 obtain ⟨OD,hOD⟩:∃ o:Bool,decide ((X / Y) % 2 = 1) = o:=⟨_,rfl⟩
 rw [hOD] at hup
 obtain ⟨ob,hob⟩:∃ o:Nat,bitN (X / Y) 0 = o:=⟨_,rfl⟩
 have hob2:decide ((ob:Int) = 1) = OD:=by rw [← hOD,← hob]; unfold bitN; rw [Nat.pow_zero,Nat.div_one]; congr 1; exact propext (by omega)
 have hob3:((ob:Int) == 1) = OD:=by rw [← hob2]; exact (Bool.beq_eq_decide_eq _ _)
 have HOb:=Hj hob
 have HUp:=Hj hup
 clear hOD hob hup hX hY hUe KD hdv hx hy kx ky ey mA ml mU mB mB1 ml1 hl1 hfin wl wu hB0 hU vy bx hba hz hc
 unfold ratV
 go_enter Tryz.func48,Tryz.ntmps48
 go_wp2_with fail
 refine (Uh HKT).mono ?_
 rintro _ w1 ⟨au,mu,cu,rfl,su,nu,b1⟩
 have f1:=(ck b1 p1); have f2:=(ck b1 p2)
 have HB1:=Hj b1
 have SU:=Hj su
 clear su nu b1 HKT p1 p2
 go_wp2_with fail
 refine (sure_any _ _ _).mono ?_
 rintro _ _ ⟨rfl,hw⟩
 obtain rfl:=hw.symm
 clear hw
 go_wp2_with fail
 refine (Uh HKD _ (Uh HB1)).mono ?_
 rintro _ w2 ⟨aq,mq,cq,al,ml,cl,rfl,sq,nq,sl,nl,_,b2⟩
 have h1:=(ck b2 f1); have h2:=(ck b2 f2)
 have HB2:=Hj ((Uh HB1).trans (b2.mono (Uh HB1).size))
 have S2:=Hj (And.intro sq (And.intro sl ((Uh SU).below b2)))
 clear sq nq sl nl b2 HKD f1 f2 HB1 SU
 have HKP:=Hj (fun (W:World) (hb:Below w2.heap.size w2 W) => product_any al au ml cl mu cu (limbs (X % Y)) (limbs U) W ((Uh S2).2.1.below hb) ((Uh S2).2.2.below hb) (limbs_ok _) (limbs_ok _) (Uh HMs).2.1 (Uh HMs).2.2.1)
 rw [limbs_v,limbs_v] at HKP
 go_wp2_with fail
 go_region_held3 (fun w' => w'.cell? ⟨w.heap.size,1,none⟩ = some (.slice a n c) ∧ w'.cell? ⟨w.heap.size,2,none⟩ = some (.slice b m d)) (first | go_keep | (exact ⟨k1,k2⟩) | (exact ⟨j1,j2⟩))
  (first
   | (go_at_call 86; refine (Uh HKP _ (Below.refl _ _).drew).mono ?_; rintro _ w3 ⟨ap,np,cp,pps,rfl,hWp,_,b3⟩; have hb3:Below w2.heap.size w2 w3:=(Below.refl _ _).drew.trans b3; have k1:=(ck hb3 h1); have k2:=(ck hb3 h2); have HP:=Hj (And.intro hWp (small_wide hWp (Uh HWs).1 (Uh HWs).2)); have HB3:=Hj hb3; clear hWp b3 hb3)
   | (go_at_call 95; refine (by_any w3 w3 ap np cp (X % Y * U) pps b m d y (Below.refl _ _) (Uh HP).1 (Uh HP).2 (((Uh HYs).1.below (Uh HB2)).below (Uh HB3)) oy (Uh HYs).2.1 (Uh HYs).2.2).mono ?_; rintro _ w4 ⟨aw,nw,cw,pws,ar,mr,cr,rfl,hWw,_,sr,b4⟩; have j1:=(ck b4 k1); have j2:=(ck b4 k2); rw [Uh HYv] at hWw sr; have HB4:=Hj ((Uh HB3).trans (b4.mono (Uh HB3).size)); have S4:=Hj (And.intro hWw sr); clear hWw sr b4))
 have HB5:=Hj ((Uh HB2).trans ((Uh HB4).mono (Uh HB2).size))
 have S5:=Hj (And.intro ((Uh S2).1.below (Uh HB4)) (And.intro ((Uh S2).2.2.below (Uh HB4)) (Uh S4).2))
 have KN:=narrow_any aw nw cw _ pws w4 (Uh S4).1
 rw [show fitL (X % Y * U / Y) = (limbs (X % Y * U / Y),0) from fitL_ok (by have:=MayL.len (Uh HMs).2.2.2.1; omega)] at KN
 have HKN:=Hj KN
 clear KN HKP HP HB3 HB4 S4 S2 HB2 h1 h2 k1 k2
 try go_wp2_with fail
 refine (Uh HKN).mono ?_
 rintro _ w5 ⟨ab,mb,cb,rfl,sb,nb,b5⟩
 have i1:=(ck b5 j1); have i2:=(ck b5 j2)
 have HB6:=Hj ((Uh HB5).trans (b5.mono (Uh HB5).size))
 have S6:=Hj (And.intro ((Uh S5).1.below b5) (And.intro ((Uh S5).2.1.below b5) (And.intro ((Uh S5).2.2.below b5) sb)))
 clear sb nb b5 HKN HB5 S5 j1 j2
 go_wp2_with fail
 refine (sure_any _ _ _).mono ?_
 rintro _ _ ⟨rfl,hw⟩
 obtain rfl:=hw.symm
 clear hw
 have KB:=nbit_any aq mq cq (limbs (X / Y)) 0 w5.drew ((Uh S6).1.below (Below.refl _ _).drew) (limbs_ok _) (Uh HMs).1 (by omega)
 rw [limbs_v,Uh HOb] at KB
 have HKB:=Hj KB
 have HKU:=Hj (fun (W:World) (hb:Below w5.heap.size w5 W) => roundsUp_any ar b mr cr m d (limbs (X % Y * U % Y)) y OD W ((Uh S6).2.2.1.below hb) (((Uh HYs).1.below (Uh HB6)).below hb) (limbs_ok _) oy (Uh HMs).2.2.2.2.2 (Uh HYs).2.1 (by rw [limbs_v,Uh HYv]; exact Uh HL1))
 rw [limbs_v,Uh HYv,Uh HUp] at HKU
 clear KB
 go_wp2_with fail
 go_region_held3 (fun w' => w'.cell? ⟨w.heap.size,1,none⟩ = some (.slice a n c) ∧ w'.cell? ⟨w.heap.size,2,none⟩ = some (.slice b m d)) (first | go_keep | (exact ⟨k1,k2⟩))
  (first
   | (go_at_call 98; refine (Uh HKB).mono ?_; rintro _ _ ⟨rfl,hw⟩; obtain rfl:=hw.symm; clear hw)
   | (go_at_call 97; refine (Uh HKU _ (Below.refl _ _).drew).mono ?_; rintro _ w6 ⟨rfl,b6⟩; have hb6:Below w5.heap.size w5 w6:=(Below.refl _ _).drew.trans b6; have k1:=(ck hb6 i1); have k2:=(ck hb6 i2); have HB7:=Hj hb6; clear b6 hb6))
 have HB8:=Hj ((Uh HB6).trans ((Uh HB7).mono (Uh HB6).size))
 have S8:=Hj (And.intro ((Uh S6).1.below (Uh HB7)) (And.intro ((Uh S6).2.1.below (Uh HB7)) ((Uh S6).2.2.2.below (Uh HB7))))
 clear HKB HKU HB7 S6 HB6 i1 i2
 have HKI:=Hj (ratIncr_any ab mb cb (X % Y * U / Y) w6 (Uh S8).2.2 (Uh HMs).2.2.2.1 (MayL.len (Uh HMs).2.2.2.2.1))
 go_wp2_with fail
 refine (Uh HKI).mono ?_
 rintro _ w7 ⟨ai,mi,ci,rfl,si,ni,b7⟩
 have HB9:=Hj ((Uh HB8).trans (b7.mono (Uh HB8).size))
 have S9:=Hj (And.intro ((Uh S8).1.below b7) (And.intro ((Uh S8).2.1.below b7) si))
 clear si ni b7 HKI HB8 S8 k1 k2
 have KC:=ncmp_any ai au mi ci mu cu (limbs (X % Y * U / Y + 1)) (limbs U) w7 (Uh S9).2.2 (Uh S9).2.1 (limbs_ok _) (limbs_ok _)
 rw [cmp_eq (Uh HMs).2.2.2.2.1 (Uh HMs).2.2.1] at KC
 have hcn:=cmpN_ne (a:=X % Y * U / Y + 1) (b:=U) (Uh HC)
 obtain ⟨CV,hCV⟩:∃ v,cmpN (X % Y * U / Y + 1) U = v:=⟨_,rfl⟩
 rw [hCV] at KC hcn
 have tc1:(CV == 0) = false:=by simp [hcn]
 clear hCV
 have HKC:=Hj KC
 clear KC
 go_wp2_with fail
 refine (Uh HKC).mono ?_
 rintro _ _ ⟨rfl,jj,rfl⟩
 clear HKC
 go_wp2_with fail
 go_ret2
 have hb9:=bel_drewN (Uh HB9) jj
 obtain ⟨f1,f2,f3,f4,f5,f6⟩:=Uh HF
 refine ⟨aq,mq,cq,ai,mi,ci,X / Y,X % Y * U / Y + 1,rfl,⟨(Uh S9).1.drewN jj,(Uh S9).2.2.drewN jj⟩,⟨?_,(by have:=Uh HC; omega)⟩,⟨f4,f5⟩,(Uh HBa).trans (hb9.mono (Uh HBa).size)⟩
 rw [f1]
 simp
set_option maxRecDepth 100000 in
set_option maxHeartbeats 16000000 in
theorem rtp_nN (g:Bool) (a b:Option Addr) (n c m d:Nat) (x y:List Nat) (k:Nat) (w:World) (hx:Sl w a n c x) (hy:Sl w b m d y) (ox:Ok x) (oy:Ok y) (kx:MayL x = true) (ky:MayL y = true) (ey:y ≠ []) (hk:k ≤ 1000) (hz:k ≠ 0) (hup:(decide (val y < val x % val y * 10 ^ k % val y + val x % val y * 10 ^ k % val y) || (decide (val y = val x % val y * 10 ^ k % val y + val x % val y * 10 ^ k % val y) && decide ((val x % val y * 10 ^ k / val y) % 2 = 1))) = false) :
  Calls Tryz.prog 48 #[ratV g a n c b m d,.int .i64 (k:Nat)] w fun e w' => RpPost w w' (val x) (val y) (10 ^ k) e:=by
 have bx:=Box.made w g a n c b m d
 obtain ⟨wa,hwa⟩:∃ wa,ratBox w g a n c b m d = wa:=⟨_,rfl⟩
 rw [hwa] at bx
 unfold ratBox at hwa
 have hba:=bx.bel
 have p1:=bx.d1
 have p2:=bx.d2
 have vy:=val_pos_of_may ky ey
 have hdv:divL x y = (limbs (val x / val y),limbs (val x % val y),0):=by
  unfold divL
  rw [kx,ky]
  simp [ey]
 have hU:0 < 10 ^ k:=Nat.pow_pos (by decide)
 have hB0:=rp_lt (X:=val x) vy hU
 have mA:MayL (limbs (val x / val y)) = true:=may_div kx ox _
 have ml:MayL (limbs (val x % val y)) = true:=may_small ky oy (Nat.le_of_lt (Nat.mod_lt _ vy))
 have mU:MayL (limbs (10 ^ k)) = true:=ten_may (by omega)
 have mB:MayL (limbs (val x % val y * 10 ^ k / val y)) = true:=MayL.mk (limbs_norm _) (by have:=ten_len (Nat.le_of_lt hB0); omega)
 have mB1:MayL (limbs (val x % val y * 10 ^ k / val y + 1)) = true:=MayL.mk (limbs_norm _) (by have:=ten_len (show val x % val y * 10 ^ k / val y + 1 ≤ 10 ^ k from hB0); omega)
 have ml1:MayL (limbs (val x % val y * 10 ^ k % val y)) = true:=may_small ky oy (Nat.le_of_lt (Nat.mod_lt _ vy))
 have hl1:=Nat.le_of_lt (Nat.mod_lt (val x % val y * 10 ^ k) vy)
 have hfin:=rp_fin (X:=val x) (U:=10 ^ k) vy (rp_odd1 vy hz) hup
 have wl:=may_lt ml (limbs_ok _)
 have wu:=may_lt mU (limbs_ok _)
 rw [limbs_v] at wl wu
 have HKT:=Hj (tenTo_any k hk wa)
 have KD:∀ (W:World),Below wa.heap.size wa W → Calls Tryz.prog 38 #[.slice a n c,.slice b m d] W _:=fun W hb => ndivmod_any a b n c m d x y W ((hx.below hba).below hb) ((hy.below hba).below hb) ox oy
 rw [hdv] at KD
 try dsimp only at KD
 obtain ⟨X,hX⟩:∃ X,val x = X:=⟨_,rfl⟩
 obtain ⟨Y,hY⟩:∃ Y,val y = Y:=⟨_,rfl⟩
 obtain ⟨U,hUe⟩:∃ U,10 ^ k = U:=⟨_,rfl⟩
 rw [hX,hY] at KD mA ml hup hfin wl
 rw [hX,hY,hUe] at mB mB1 ml1 hl1 hB0
 rw [hUe] at hup hfin mU wu hU HKT
 rw [hX,hY,hUe]
 rw [hY] at vy
 have HYv:=Hj hY
 have HF:=Hj (And.intro hfin (And.intro hB0 (And.intro hU (And.intro mA (And.intro mB1 mB)))))
 have HMs:=Hj (And.intro mA (And.intro ml (And.intro mU (And.intro mB (And.intro mB1 ml1)))))
 have HWs:=Hj (And.intro wl wu)
 have HYs:=Hj (And.intro (hy.below hba) (And.intro ky ey))
 have HL1:=Hj hl1
 have HKD:=Hj KD
 have HBa:=Hj hba
 have HZ:=Hj hz
 have tz:((k:Int) == 0) = false:=by simp; omega
 have tz2:¬ (k:Int) = 0:=by omega
 obtain ⟨OD,hOD⟩:∃ o:Bool,decide ((X % Y * U / Y) % 2 = 1) = o:=⟨_,rfl⟩
 rw [hOD] at hup
 obtain ⟨ob,hob⟩:∃ o:Nat,bitN (X % Y * U / Y) 0 = o:=⟨_,rfl⟩
 have hob2:decide ((ob:Int) = 1) = OD:=by rw [← hOD,← hob]; unfold bitN; rw [Nat.pow_zero,Nat.div_one]; congr 1; exact propext (by omega)
 have hob3:((ob:Int) == 1) = OD:=by rw [← hob2]; exact (Bool.beq_eq_decide_eq _ _)
 have HOb:=Hj hob
 have HUp:=Hj hup
 clear hOD hob hup hX hY hUe KD hdv hx hy kx ky ey mA ml mU mB mB1 ml1 hl1 hfin wl wu hB0 hU vy bx hba hz
 unfold ratV
 go_enter Tryz.func48,Tryz.ntmps48
 go_wp2_with fail
 refine (Uh HKT).mono ?_
 rintro _ w1 ⟨au,mu,cu,rfl,su,nu,b1⟩
 have f1:=(ck b1 p1); have f2:=(ck b1 p2)
 have HB1:=Hj b1
 have SU:=Hj su
 clear su nu b1 HKT p1 p2
 go_wp2_with fail
 refine (sure_any _ _ _).mono ?_
 rintro _ _ ⟨rfl,hw⟩
 obtain rfl:=hw.symm
 clear hw
 go_wp2_with fail
 refine (Uh HKD _ (Uh HB1)).mono ?_
 rintro _ w2 ⟨aq,mq,cq,al,ml,cl,rfl,sq,nq,sl,nl,_,b2⟩
 have h1:=(ck b2 f1); have h2:=(ck b2 f2)
 have HB2:=Hj ((Uh HB1).trans (b2.mono (Uh HB1).size))
 have S2:=Hj (And.intro sq (And.intro sl ((Uh SU).below b2)))
 clear sq nq sl nl b2 HKD f1 f2 HB1 SU
 have HKP:=Hj (fun (W:World) (hb:Below w2.heap.size w2 W) => product_any al au ml cl mu cu (limbs (X % Y)) (limbs U) W ((Uh S2).2.1.below hb) ((Uh S2).2.2.below hb) (limbs_ok _) (limbs_ok _) (Uh HMs).2.1 (Uh HMs).2.2.1)
 rw [limbs_v,limbs_v] at HKP
 go_wp2_with fail
 go_region_held3 (fun w' => w'.cell? ⟨w.heap.size,1,none⟩ = some (.slice a n c) ∧ w'.cell? ⟨w.heap.size,2,none⟩ = some (.slice b m d)) (first | go_keep | (exact ⟨k1,k2⟩) | (exact ⟨j1,j2⟩))
  (first
   | (go_at_call 86; refine (Uh HKP _ (Below.refl _ _).drew).mono ?_; rintro _ w3 ⟨ap,np,cp,pps,rfl,hWp,_,b3⟩; have hb3:Below w2.heap.size w2 w3:=(Below.refl _ _).drew.trans b3; have k1:=(ck hb3 h1); have k2:=(ck hb3 h2); have HP:=Hj (And.intro hWp (small_wide hWp (Uh HWs).1 (Uh HWs).2)); have HB3:=Hj hb3; clear hWp b3 hb3)
   | (go_at_call 95; refine (by_any w3 w3 ap np cp (X % Y * U) pps b m d y (Below.refl _ _) (Uh HP).1 (Uh HP).2 (((Uh HYs).1.below (Uh HB2)).below (Uh HB3)) oy (Uh HYs).2.1 (Uh HYs).2.2).mono ?_; rintro _ w4 ⟨aw,nw,cw,pws,ar,mr,cr,rfl,hWw,_,sr,b4⟩; have j1:=(ck b4 k1); have j2:=(ck b4 k2); rw [Uh HYv] at hWw sr; have HB4:=Hj ((Uh HB3).trans (b4.mono (Uh HB3).size)); have S4:=Hj (And.intro hWw sr); clear hWw sr b4))
 have HB5:=Hj ((Uh HB2).trans ((Uh HB4).mono (Uh HB2).size))
 have S5:=Hj (And.intro ((Uh S2).1.below (Uh HB4)) (And.intro ((Uh S2).2.2.below (Uh HB4)) (Uh S4).2))
 have KN:=narrow_any aw nw cw _ pws w4 (Uh S4).1
 rw [show fitL (X % Y * U / Y) = (limbs (X % Y * U / Y),0) from fitL_ok (by have:=MayL.len (Uh HMs).2.2.2.1; omega)] at KN
 have HKN:=Hj KN
 clear KN HKP HP HB3 HB4 S4 S2 HB2 h1 h2 k1 k2
 try go_wp2_with fail
 refine (Uh HKN).mono ?_
 rintro _ w5 ⟨ab,mb,cb,rfl,sb,nb,b5⟩
 have i1:=(ck b5 j1); have i2:=(ck b5 j2)
 have HB6:=Hj ((Uh HB5).trans (b5.mono (Uh HB5).size))
 have S6:=Hj (And.intro ((Uh S5).1.below b5) (And.intro ((Uh S5).2.1.below b5) (And.intro ((Uh S5).2.2.below b5) sb)))
 clear sb nb b5 HKN HB5 S5 j1 j2
 go_wp2_with fail
 refine (sure_any _ _ _).mono ?_
 rintro _ _ ⟨rfl,hw⟩
 obtain rfl:=hw.symm
 clear hw
 have KB:=nbit_any ab mb cb (limbs (X % Y * U / Y)) 0 w5.drew ((Uh S6).2.2.2.below (Below.refl _ _).drew) (limbs_ok _) (Uh HMs).2.2.2.1 (by omega)
 rw [limbs_v,Uh HOb] at KB
 have HKB:=Hj KB
 have HKU:=Hj (fun (W:World) (hb:Below w5.heap.size w5 W) => roundsUp_any ar b mr cr m d (limbs (X % Y * U % Y)) y OD W ((Uh S6).2.2.1.below hb) (((Uh HYs).1.below (Uh HB6)).below hb) (limbs_ok _) oy (Uh HMs).2.2.2.2.2 (Uh HYs).2.1 (by rw [limbs_v,Uh HYv]; exact Uh HL1))
 rw [limbs_v,Uh HYv,Uh HUp] at HKU
 clear KB
 go_wp2_with fail
 go_region_held3 (fun w' => w'.cell? ⟨w.heap.size,1,none⟩ = some (.slice a n c) ∧ w'.cell? ⟨w.heap.size,2,none⟩ = some (.slice b m d)) (first | go_keep | (exact ⟨k1,k2⟩))
  (first
   | (go_at_call 98; refine (Uh HKB).mono ?_; rintro _ _ ⟨rfl,hw⟩; obtain rfl:=hw.symm; clear hw)
   | (go_at_call 97; refine (Uh HKU _ (Below.refl _ _).drew).mono ?_; rintro _ w6 ⟨rfl,b6⟩; have hb6:Below w5.heap.size w5 w6:=(Below.refl _ _).drew.trans b6; have k1:=(ck hb6 i1); have k2:=(ck hb6 i2); have HB7:=Hj hb6; clear b6 hb6))
 have HB8:=Hj ((Uh HB6).trans ((Uh HB7).mono (Uh HB6).size))
 have S8:=Hj (And.intro ((Uh S6).1.below (Uh HB7)) (And.intro ((Uh S6).2.1.below (Uh HB7)) ((Uh S6).2.2.2.below (Uh HB7))))
 clear HKB HKU HB7 S6 HB6 i1 i2
 have HB9:=HB8
 have S9:=S8
 clear HB8 S8
 have KC:=ncmp_any ab au mb cb mu cu (limbs (X % Y * U / Y)) (limbs U) w6 (Uh S9).2.2 (Uh S9).2.1 (limbs_ok _) (limbs_ok _)
 rw [cmp_eq (Uh HMs).2.2.2.1 (Uh HMs).2.2.1] at KC
 have hcn:=cmpN_ne (a:=X % Y * U / Y) (b:=U) (by have:=(Uh HF).2.1; omega)
 obtain ⟨CV,hCV⟩:∃ v,cmpN (X % Y * U / Y) U = v:=⟨_,rfl⟩
 rw [hCV] at KC hcn
 have tc1:(CV == 0) = false:=by simp [hcn]
 clear hCV
 have HKC:=Hj KC
 clear KC
 go_wp2_with fail
 refine (Uh HKC).mono ?_
 rintro _ _ ⟨rfl,jj,rfl⟩
 clear HKC
 go_wp2_with fail
 go_ret2
 have hb9:=bel_drewN (Uh HB9) jj
 obtain ⟨f1,f2,f3,f4,f5,f6⟩:=Uh HF
 refine ⟨aq,mq,cq,ab,mb,cb,X / Y,X % Y * U / Y,rfl,⟨(Uh S9).1.drewN jj,(Uh S9).2.2.drewN jj⟩,⟨?_,f2⟩,⟨f4,f6⟩,(Uh HBa).trans (hb9.mono (Uh HBa).size)⟩
 rw [f1]
 simp
set_option maxRecDepth 100000 in
set_option maxHeartbeats 16000000 in
theorem rtp_nU (g:Bool) (a b:Option Addr) (n c m d:Nat) (x y:List Nat) (k:Nat) (w:World) (hx:Sl w a n c x) (hy:Sl w b m d y) (ox:Ok x) (oy:Ok y) (kx:MayL x = true) (ky:MayL y = true) (ey:y ≠ []) (hk:k ≤ 1000) (hz:k ≠ 0) (hup:(decide (val y < val x % val y * 10 ^ k % val y + val x % val y * 10 ^ k % val y) || (decide (val y = val x % val y * 10 ^ k % val y + val x % val y * 10 ^ k % val y) && decide ((val x % val y * 10 ^ k / val y) % 2 = 1))) = true) (hc:val x % val y * 10 ^ k / val y + 1 = 10 ^ k) :
  Calls Tryz.prog 48 #[ratV g a n c b m d,.int .i64 (k:Nat)] w fun e w' => RpPost w w' (val x) (val y) (10 ^ k) e:=by
 have bx:=Box.made w g a n c b m d
 obtain ⟨wa,hwa⟩:∃ wa,ratBox w g a n c b m d = wa:=⟨_,rfl⟩
 rw [hwa] at bx
 unfold ratBox at hwa
 have hba:=bx.bel
 have p1:=bx.d1
 have p2:=bx.d2
 have vy:=val_pos_of_may ky ey
 have hdv:divL x y = (limbs (val x / val y),limbs (val x % val y),0):=by
  unfold divL
  rw [kx,ky]
  simp [ey]
 have hU:0 < 10 ^ k:=Nat.pow_pos (by decide)
 have hB0:=rp_lt (X:=val x) vy hU
 have mA:MayL (limbs (val x / val y)) = true:=may_div kx ox _
 have ml:MayL (limbs (val x % val y)) = true:=may_small ky oy (Nat.le_of_lt (Nat.mod_lt _ vy))
 have mU:MayL (limbs (10 ^ k)) = true:=ten_may (by omega)
 have mB:MayL (limbs (val x % val y * 10 ^ k / val y)) = true:=MayL.mk (limbs_norm _) (by have:=ten_len (Nat.le_of_lt hB0); omega)
 have mB1:MayL (limbs (val x % val y * 10 ^ k / val y + 1)) = true:=MayL.mk (limbs_norm _) (by have:=ten_len (show val x % val y * 10 ^ k / val y + 1 ≤ 10 ^ k from hB0); omega)
 have ml1:MayL (limbs (val x % val y * 10 ^ k % val y)) = true:=may_small ky oy (Nat.le_of_lt (Nat.mod_lt _ vy))
 have hl1:=Nat.le_of_lt (Nat.mod_lt (val x % val y * 10 ^ k) vy)
 have hfin:=rp_fin (X:=val x) (U:=10 ^ k) vy (rp_odd1 vy hz) hup
 have mA1:MayL (limbs (val x / val y + 1)) = true:=may_small kx ox (incr_fit vy (rp_left vy hU hc hup))
 have wl:=may_lt ml (limbs_ok _)
 have wu:=may_lt mU (limbs_ok _)
 rw [limbs_v] at wl wu
 have HKT:=Hj (tenTo_any k hk wa)
 have KD:∀ (W:World),Below wa.heap.size wa W → Calls Tryz.prog 38 #[.slice a n c,.slice b m d] W _:=fun W hb => ndivmod_any a b n c m d x y W ((hx.below hba).below hb) ((hy.below hba).below hb) ox oy
 rw [hdv] at KD
 try dsimp only at KD
 obtain ⟨X,hX⟩:∃ X,val x = X:=⟨_,rfl⟩
 obtain ⟨Y,hY⟩:∃ Y,val y = Y:=⟨_,rfl⟩
 obtain ⟨U,hUe⟩:∃ U,10 ^ k = U:=⟨_,rfl⟩
 rw [hX,hY] at KD mA ml hup hfin wl
 rw [hX,hY,hUe] at mB mB1 ml1 hl1 hB0
 rw [hUe] at hup hfin mU wu hU HKT
 rw [hX,hY,hUe]
 rw [hY] at vy
 rw [hX,hY,hUe] at hc
 rw [hX,hY] at mA1
 have HYv:=Hj hY
 have HF:=Hj (And.intro hfin (And.intro hB0 (And.intro hU (And.intro mA1 (And.intro mB1 mB)))))
 have HMs:=Hj (And.intro mA (And.intro ml (And.intro mU (And.intro mB (And.intro mB1 ml1)))))
 have HWs:=Hj (And.intro wl wu)
 have HYs:=Hj (And.intro (hy.below hba) (And.intro ky ey))
 have HL1:=Hj hl1
 have HKD:=Hj KD
 have HBa:=Hj hba
 have HC:=Hj hc
 have HZ:=Hj hz
 have tz:((k:Int) == 0) = false:=by simp; omega
 have tz2:¬ (k:Int) = 0:=by omega
 obtain ⟨OD,hOD⟩:∃ o:Bool,decide ((X % Y * U / Y) % 2 = 1) = o:=⟨_,rfl⟩
 rw [hOD] at hup
 obtain ⟨ob,hob⟩:∃ o:Nat,bitN (X % Y * U / Y) 0 = o:=⟨_,rfl⟩
 have hob2:decide ((ob:Int) = 1) = OD:=by rw [← hOD,← hob]; unfold bitN; rw [Nat.pow_zero,Nat.div_one]; congr 1; exact propext (by omega)
 have hob3:((ob:Int) == 1) = OD:=by rw [← hob2]; exact (Bool.beq_eq_decide_eq _ _)
 have HOb:=Hj hob
 have HUp:=Hj hup
 clear hOD hob hup hX hY hUe KD hdv hx hy kx ky ey mA ml mU mB mB1 ml1 hl1 hfin wl wu hB0 hU vy bx hba hz hc mA1
 unfold ratV
 go_enter Tryz.func48,Tryz.ntmps48
 go_wp2_with fail
 refine (Uh HKT).mono ?_
 rintro _ w1 ⟨au,mu,cu,rfl,su,nu,b1⟩
 have f1:=(ck b1 p1); have f2:=(ck b1 p2)
 have HB1:=Hj b1
 have SU:=Hj su
 clear su nu b1 HKT p1 p2
 go_wp2_with fail
 refine (sure_any _ _ _).mono ?_
 rintro _ _ ⟨rfl,hw⟩
 obtain rfl:=hw.symm
 clear hw
 go_wp2_with fail
 refine (Uh HKD _ (Uh HB1)).mono ?_
 rintro _ w2 ⟨aq,mq,cq,al,ml,cl,rfl,sq,nq,sl,nl,_,b2⟩
 have h1:=(ck b2 f1); have h2:=(ck b2 f2)
 have HB2:=Hj ((Uh HB1).trans (b2.mono (Uh HB1).size))
 have S2:=Hj (And.intro sq (And.intro sl ((Uh SU).below b2)))
 clear sq nq sl nl b2 HKD f1 f2 HB1 SU
 have HKP:=Hj (fun (W:World) (hb:Below w2.heap.size w2 W) => product_any al au ml cl mu cu (limbs (X % Y)) (limbs U) W ((Uh S2).2.1.below hb) ((Uh S2).2.2.below hb) (limbs_ok _) (limbs_ok _) (Uh HMs).2.1 (Uh HMs).2.2.1)
 rw [limbs_v,limbs_v] at HKP
 go_wp2_with fail
 go_region_held3 (fun w' => w'.cell? ⟨w.heap.size,1,none⟩ = some (.slice a n c) ∧ w'.cell? ⟨w.heap.size,2,none⟩ = some (.slice b m d)) (first | go_keep | (exact ⟨k1,k2⟩) | (exact ⟨j1,j2⟩))
  (first
   | (go_at_call 86; refine (Uh HKP _ (Below.refl _ _).drew).mono ?_; rintro _ w3 ⟨ap,np,cp,pps,rfl,hWp,_,b3⟩; have hb3:Below w2.heap.size w2 w3:=(Below.refl _ _).drew.trans b3; have k1:=(ck hb3 h1); have k2:=(ck hb3 h2); have HP:=Hj (And.intro hWp (small_wide hWp (Uh HWs).1 (Uh HWs).2)); have HB3:=Hj hb3; clear hWp b3 hb3)
   | (go_at_call 95; refine (by_any w3 w3 ap np cp (X % Y * U) pps b m d y (Below.refl _ _) (Uh HP).1 (Uh HP).2 (((Uh HYs).1.below (Uh HB2)).below (Uh HB3)) oy (Uh HYs).2.1 (Uh HYs).2.2).mono ?_; rintro _ w4 ⟨aw,nw,cw,pws,ar,mr,cr,rfl,hWw,_,sr,b4⟩; have j1:=(ck b4 k1); have j2:=(ck b4 k2); rw [Uh HYv] at hWw sr; have HB4:=Hj ((Uh HB3).trans (b4.mono (Uh HB3).size)); have S4:=Hj (And.intro hWw sr); clear hWw sr b4))
 have HB5:=Hj ((Uh HB2).trans ((Uh HB4).mono (Uh HB2).size))
 have S5:=Hj (And.intro ((Uh S2).1.below (Uh HB4)) (And.intro ((Uh S2).2.2.below (Uh HB4)) (Uh S4).2))
 have KN:=narrow_any aw nw cw _ pws w4 (Uh S4).1
 rw [show fitL (X % Y * U / Y) = (limbs (X % Y * U / Y),0) from fitL_ok (by have:=MayL.len (Uh HMs).2.2.2.1; omega)] at KN
 have HKN:=Hj KN
 clear KN HKP HP HB3 HB4 S4 S2 HB2 h1 h2 k1 k2
 try go_wp2_with fail
 refine (Uh HKN).mono ?_
 rintro _ w5 ⟨ab,mb,cb,rfl,sb,nb,b5⟩
 have i1:=(ck b5 j1); have i2:=(ck b5 j2)
 have HB6:=Hj ((Uh HB5).trans (b5.mono (Uh HB5).size))
 have S6:=Hj (And.intro ((Uh S5).1.below b5) (And.intro ((Uh S5).2.1.below b5) (And.intro ((Uh S5).2.2.below b5) sb)))
 clear sb nb b5 HKN HB5 S5 j1 j2
 go_wp2_with fail
 refine (sure_any _ _ _).mono ?_
 rintro _ _ ⟨rfl,hw⟩
 obtain rfl:=hw.symm
 clear hw
 have KB:=nbit_any ab mb cb (limbs (X % Y * U / Y)) 0 w5.drew ((Uh S6).2.2.2.below (Below.refl _ _).drew) (limbs_ok _) (Uh HMs).2.2.2.1 (by omega)
 rw [limbs_v,Uh HOb] at KB
 have HKB:=Hj KB
 have HKU:=Hj (fun (W:World) (hb:Below w5.heap.size w5 W) => roundsUp_any ar b mr cr m d (limbs (X % Y * U % Y)) y OD W ((Uh S6).2.2.1.below hb) (((Uh HYs).1.below (Uh HB6)).below hb) (limbs_ok _) oy (Uh HMs).2.2.2.2.2 (Uh HYs).2.1 (by rw [limbs_v,Uh HYv]; exact Uh HL1))
 rw [limbs_v,Uh HYv,Uh HUp] at HKU
 clear KB
 go_wp2_with fail
 go_region_held3 (fun w' => w'.cell? ⟨w.heap.size,1,none⟩ = some (.slice a n c) ∧ w'.cell? ⟨w.heap.size,2,none⟩ = some (.slice b m d)) (first | go_keep | (exact ⟨k1,k2⟩))
  (first
   | (go_at_call 98; refine (Uh HKB).mono ?_; rintro _ _ ⟨rfl,hw⟩; obtain rfl:=hw.symm; clear hw)
   | (go_at_call 97; refine (Uh HKU _ (Below.refl _ _).drew).mono ?_; rintro _ w6 ⟨rfl,b6⟩; have hb6:Below w5.heap.size w5 w6:=(Below.refl _ _).drew.trans b6; have k1:=(ck hb6 i1); have k2:=(ck hb6 i2); have HB7:=Hj hb6; clear b6 hb6))
 have HB8:=Hj ((Uh HB6).trans ((Uh HB7).mono (Uh HB6).size))
 have S8:=Hj (And.intro ((Uh S6).1.below (Uh HB7)) (And.intro ((Uh S6).2.1.below (Uh HB7)) ((Uh S6).2.2.2.below (Uh HB7))))
 clear HKB HKU HB7 S6 HB6 i1 i2
 have HKI:=Hj (ratIncr_any ab mb cb (X % Y * U / Y) w6 (Uh S8).2.2 (Uh HMs).2.2.2.1 (MayL.len (Uh HMs).2.2.2.2.1))
 go_wp2_with fail
 refine (Uh HKI).mono ?_
 rintro _ w7 ⟨ai,mi,ci,rfl,si,ni,b7⟩
 have HB9:=Hj ((Uh HB8).trans (b7.mono (Uh HB8).size))
 have S9:=Hj (And.intro ((Uh S8).1.below b7) (And.intro ((Uh S8).2.1.below b7) si))
 clear si ni b7 HKI HB8 S8 k1 k2
 have KC:=ncmp_any ai au mi ci mu cu (limbs (X % Y * U / Y + 1)) (limbs U) w7 (Uh S9).2.2 (Uh S9).2.1 (limbs_ok _) (limbs_ok _)
 rw [cmp_eq (Uh HMs).2.2.2.2.1 (Uh HMs).2.2.1] at KC
 rw [cmpN_same (Uh HC)] at KC
 have HKC:=Hj KC
 clear KC
 go_wp2_with fail
 refine (Uh HKC).mono ?_
 rintro _ _ ⟨rfl,jj,rfl⟩
 clear HKC
 have HKA:=Hj (ratIncr_any aq mq cq (X / Y) _ ((Uh S9).1.drewN jj) (Uh HMs).1 (MayL.len (Uh HF).2.2.2.1))
 go_wp2_with fail
 refine (Uh HKA).mono ?_
 rintro _ w8 ⟨ag,mg,cg,rfl,sg,ng,b8⟩
 have HG:=Hj (And.intro sg b8)
 clear sg ng b8 HKA
 go_wp2_with fail
 go_ret2
 have hb9:=bel_drewN (Uh HB9) jj
 obtain ⟨f1,f2,f3,f4,f5,f6⟩:=Uh HF
 refine ⟨ag,mg,cg,none,0,0,X / Y + 1,0,rfl,⟨(Uh HG).1,by rw [limbs_zero]; exact sl_nil _⟩,⟨?_,f3⟩,⟨f4,by rw [limbs_zero]; decide⟩,?_⟩
 ·rw [f1]; simp only [if_true]; rw [Uh HC,Nat.add_mul,Nat.one_mul,Nat.add_zero]
 ·exact ((Uh HBa).trans (hb9.mono (Uh HBa).size)).trans ((Uh HG).2.mono (Nat.le_trans (Uh HBa).size hb9.size))
set_option maxRecDepth 100000 in
set_option maxHeartbeats 16000000 in
theorem rtp_nL (g:Bool) (a b:Option Addr) (n c m d:Nat) (x y:List Nat) (k:Nat) (w:World) (hx:Sl w a n c x) (hy:Sl w b m d y) (ox:Ok x) (oy:Ok y) (kx:MayL x = true) (ky:MayL y = true) (ey:y ≠ []) (hk:k ≤ 1000) (hz:k ≠ 0) (hup:(decide (val y < val x % val y * 10 ^ k % val y + val x % val y * 10 ^ k % val y) || (decide (val y = val x % val y * 10 ^ k % val y + val x % val y * 10 ^ k % val y) && decide ((val x % val y * 10 ^ k / val y) % 2 = 1))) = true) (hc:val x % val y * 10 ^ k / val y + 1 ≠ 10 ^ k) :
  Calls Tryz.prog 48 #[ratV g a n c b m d,.int .i64 (k:Nat)] w fun e w' => RpPost w w' (val x) (val y) (10 ^ k) e:=by
 have bx:=Box.made w g a n c b m d
 obtain ⟨wa,hwa⟩:∃ wa,ratBox w g a n c b m d = wa:=⟨_,rfl⟩
 rw [hwa] at bx
 unfold ratBox at hwa
 have hba:=bx.bel
 have p1:=bx.d1
 have p2:=bx.d2
 have vy:=val_pos_of_may ky ey
 have hdv:divL x y = (limbs (val x / val y),limbs (val x % val y),0):=by
  unfold divL
  rw [kx,ky]
  simp [ey]
 have hU:0 < 10 ^ k:=Nat.pow_pos (by decide)
 have hB0:=rp_lt (X:=val x) vy hU
 have mA:MayL (limbs (val x / val y)) = true:=may_div kx ox _
 have ml:MayL (limbs (val x % val y)) = true:=may_small ky oy (Nat.le_of_lt (Nat.mod_lt _ vy))
 have mU:MayL (limbs (10 ^ k)) = true:=ten_may (by omega)
 have mB:MayL (limbs (val x % val y * 10 ^ k / val y)) = true:=MayL.mk (limbs_norm _) (by have:=ten_len (Nat.le_of_lt hB0); omega)
 have mB1:MayL (limbs (val x % val y * 10 ^ k / val y + 1)) = true:=MayL.mk (limbs_norm _) (by have:=ten_len (show val x % val y * 10 ^ k / val y + 1 ≤ 10 ^ k from hB0); omega)
 have ml1:MayL (limbs (val x % val y * 10 ^ k % val y)) = true:=may_small ky oy (Nat.le_of_lt (Nat.mod_lt _ vy))
 have hl1:=Nat.le_of_lt (Nat.mod_lt (val x % val y * 10 ^ k) vy)
 have hfin:=rp_fin (X:=val x) (U:=10 ^ k) vy (rp_odd1 vy hz) hup
 have wl:=may_lt ml (limbs_ok _)
 have wu:=may_lt mU (limbs_ok _)
 rw [limbs_v] at wl wu
 have HKT:=Hj (tenTo_any k hk wa)
 have KD:∀ (W:World),Below wa.heap.size wa W → Calls Tryz.prog 38 #[.slice a n c,.slice b m d] W _:=fun W hb => ndivmod_any a b n c m d x y W ((hx.below hba).below hb) ((hy.below hba).below hb) ox oy
 rw [hdv] at KD
 try dsimp only at KD
 obtain ⟨X,hX⟩:∃ X,val x = X:=⟨_,rfl⟩
 obtain ⟨Y,hY⟩:∃ Y,val y = Y:=⟨_,rfl⟩
 obtain ⟨U,hUe⟩:∃ U,10 ^ k = U:=⟨_,rfl⟩
 rw [hX,hY] at KD mA ml hup hfin wl
 rw [hX,hY,hUe] at mB mB1 ml1 hl1 hB0
 rw [hUe] at hup hfin mU wu hU HKT
 rw [hX,hY,hUe]
 rw [hY] at vy
 rw [hX,hY,hUe] at hc
 have HYv:=Hj hY
 have HF:=Hj (And.intro hfin (And.intro hB0 (And.intro hU (And.intro mA (And.intro mB1 mB)))))
 have HMs:=Hj (And.intro mA (And.intro ml (And.intro mU (And.intro mB (And.intro mB1 ml1)))))
 have HWs:=Hj (And.intro wl wu)
 have HYs:=Hj (And.intro (hy.below hba) (And.intro ky ey))
 have HL1:=Hj hl1
 have HKD:=Hj KD
 have HBa:=Hj hba
 have HC:=Hj hc
 have HZ:=Hj hz
 have tz:((k:Int) == 0) = false:=by simp; omega
 have tz2:¬ (k:Int) = 0:=by omega
 obtain ⟨OD,hOD⟩:∃ o:Bool,decide ((X % Y * U / Y) % 2 = 1) = o:=⟨_,rfl⟩
 rw [hOD] at hup
 obtain ⟨ob,hob⟩:∃ o:Nat,bitN (X % Y * U / Y) 0 = o:=⟨_,rfl⟩
 have hob2:decide ((ob:Int) = 1) = OD:=by rw [← hOD,← hob]; unfold bitN; rw [Nat.pow_zero,Nat.div_one]; congr 1; exact propext (by omega)
 have hob3:((ob:Int) == 1) = OD:=by rw [← hob2]; exact (Bool.beq_eq_decide_eq _ _)
 have HOb:=Hj hob
 have HUp:=Hj hup
 clear hOD hob hup hX hY hUe KD hdv hx hy kx ky ey mA ml mU mB mB1 ml1 hl1 hfin wl wu hB0 hU vy bx hba hz hc
 unfold ratV
 go_enter Tryz.func48,Tryz.ntmps48
 go_wp2_with fail
 refine (Uh HKT).mono ?_
 rintro _ w1 ⟨au,mu,cu,rfl,su,nu,b1⟩
 have f1:=(ck b1 p1); have f2:=(ck b1 p2)
 have HB1:=Hj b1
 have SU:=Hj su
 clear su nu b1 HKT p1 p2
 go_wp2_with fail
 refine (sure_any _ _ _).mono ?_
 rintro _ _ ⟨rfl,hw⟩
 obtain rfl:=hw.symm
 clear hw
 go_wp2_with fail
 refine (Uh HKD _ (Uh HB1)).mono ?_
 rintro _ w2 ⟨aq,mq,cq,al,ml,cl,rfl,sq,nq,sl,nl,_,b2⟩
 have h1:=(ck b2 f1); have h2:=(ck b2 f2)
 have HB2:=Hj ((Uh HB1).trans (b2.mono (Uh HB1).size))
 have S2:=Hj (And.intro sq (And.intro sl ((Uh SU).below b2)))
 clear sq nq sl nl b2 HKD f1 f2 HB1 SU
 have HKP:=Hj (fun (W:World) (hb:Below w2.heap.size w2 W) => product_any al au ml cl mu cu (limbs (X % Y)) (limbs U) W ((Uh S2).2.1.below hb) ((Uh S2).2.2.below hb) (limbs_ok _) (limbs_ok _) (Uh HMs).2.1 (Uh HMs).2.2.1)
 rw [limbs_v,limbs_v] at HKP
 go_wp2_with fail
 go_region_held3 (fun w' => w'.cell? ⟨w.heap.size,1,none⟩ = some (.slice a n c) ∧ w'.cell? ⟨w.heap.size,2,none⟩ = some (.slice b m d)) (first | go_keep | (exact ⟨k1,k2⟩) | (exact ⟨j1,j2⟩))
  (first
   | (go_at_call 86; refine (Uh HKP _ (Below.refl _ _).drew).mono ?_; rintro _ w3 ⟨ap,np,cp,pps,rfl,hWp,_,b3⟩; have hb3:Below w2.heap.size w2 w3:=(Below.refl _ _).drew.trans b3; have k1:=(ck hb3 h1); have k2:=(ck hb3 h2); have HP:=Hj (And.intro hWp (small_wide hWp (Uh HWs).1 (Uh HWs).2)); have HB3:=Hj hb3; clear hWp b3 hb3)
   | (go_at_call 95; refine (by_any w3 w3 ap np cp (X % Y * U) pps b m d y (Below.refl _ _) (Uh HP).1 (Uh HP).2 (((Uh HYs).1.below (Uh HB2)).below (Uh HB3)) oy (Uh HYs).2.1 (Uh HYs).2.2).mono ?_; rintro _ w4 ⟨aw,nw,cw,pws,ar,mr,cr,rfl,hWw,_,sr,b4⟩; have j1:=(ck b4 k1); have j2:=(ck b4 k2); rw [Uh HYv] at hWw sr; have HB4:=Hj ((Uh HB3).trans (b4.mono (Uh HB3).size)); have S4:=Hj (And.intro hWw sr); clear hWw sr b4))
 have HB5:=Hj ((Uh HB2).trans ((Uh HB4).mono (Uh HB2).size))
 have S5:=Hj (And.intro ((Uh S2).1.below (Uh HB4)) (And.intro ((Uh S2).2.2.below (Uh HB4)) (Uh S4).2))
 have KN:=narrow_any aw nw cw _ pws w4 (Uh S4).1
 rw [show fitL (X % Y * U / Y) = (limbs (X % Y * U / Y),0) from fitL_ok (by have:=MayL.len (Uh HMs).2.2.2.1; omega)] at KN
 have HKN:=Hj KN
 clear KN HKP HP HB3 HB4 S4 S2 HB2 h1 h2 k1 k2
 try go_wp2_with fail
 refine (Uh HKN).mono ?_
 rintro _ w5 ⟨ab,mb,cb,rfl,sb,nb,b5⟩
 have i1:=(ck b5 j1); have i2:=(ck b5 j2)
 have HB6:=Hj ((Uh HB5).trans (b5.mono (Uh HB5).size))
 have S6:=Hj (And.intro ((Uh S5).1.below b5) (And.intro ((Uh S5).2.1.below b5) (And.intro ((Uh S5).2.2.below b5) sb)))
 clear sb nb b5 HKN HB5 S5 j1 j2
 go_wp2_with fail
 refine (sure_any _ _ _).mono ?_
 rintro _ _ ⟨rfl,hw⟩
 obtain rfl:=hw.symm
 clear hw
 have KB:=nbit_any ab mb cb (limbs (X % Y * U / Y)) 0 w5.drew ((Uh S6).2.2.2.below (Below.refl _ _).drew) (limbs_ok _) (Uh HMs).2.2.2.1 (by omega)
 rw [limbs_v,Uh HOb] at KB
 have HKB:=Hj KB
 have HKU:=Hj (fun (W:World) (hb:Below w5.heap.size w5 W) => roundsUp_any ar b mr cr m d (limbs (X % Y * U % Y)) y OD W ((Uh S6).2.2.1.below hb) (((Uh HYs).1.below (Uh HB6)).below hb) (limbs_ok _) oy (Uh HMs).2.2.2.2.2 (Uh HYs).2.1 (by rw [limbs_v,Uh HYv]; exact Uh HL1))
 rw [limbs_v,Uh HYv,Uh HUp] at HKU
 clear KB
 go_wp2_with fail
 go_region_held3 (fun w' => w'.cell? ⟨w.heap.size,1,none⟩ = some (.slice a n c) ∧ w'.cell? ⟨w.heap.size,2,none⟩ = some (.slice b m d)) (first | go_keep | (exact ⟨k1,k2⟩))
  (first
   | (go_at_call 98; refine (Uh HKB).mono ?_; rintro _ _ ⟨rfl,hw⟩; obtain rfl:=hw.symm; clear hw)
   | (go_at_call 97; refine (Uh HKU _ (Below.refl _ _).drew).mono ?_; rintro _ w6 ⟨rfl,b6⟩; have hb6:Below w5.heap.size w5 w6:=(Below.refl _ _).drew.trans b6; have k1:=(ck hb6 i1); have k2:=(ck hb6 i2); have HB7:=Hj hb6; clear b6 hb6))
 have HB8:=Hj ((Uh HB6).trans ((Uh HB7).mono (Uh HB6).size))
 have S8:=Hj (And.intro ((Uh S6).1.below (Uh HB7)) (And.intro ((Uh S6).2.1.below (Uh HB7)) ((Uh S6).2.2.2.below (Uh HB7))))
 clear HKB HKU HB7 S6 HB6 i1 i2
 have HKI:=Hj (ratIncr_any ab mb cb (X % Y * U / Y) w6 (Uh S8).2.2 (Uh HMs).2.2.2.1 (MayL.len (Uh HMs).2.2.2.2.1))
 go_wp2_with fail
 refine (Uh HKI).mono ?_
 rintro _ w7 ⟨ai,mi,ci,rfl,si,ni,b7⟩
 have HB9:=Hj ((Uh HB8).trans (b7.mono (Uh HB8).size))
 have S9:=Hj (And.intro ((Uh S8).1.below b7) (And.intro ((Uh S8).2.1.below b7) si))
 clear si ni b7 HKI HB8 S8 k1 k2
 have KC:=ncmp_any ai au mi ci mu cu (limbs (X % Y * U / Y + 1)) (limbs U) w7 (Uh S9).2.2 (Uh S9).2.1 (limbs_ok _) (limbs_ok _)
 rw [cmp_eq (Uh HMs).2.2.2.2.1 (Uh HMs).2.2.1] at KC
 have hcn:=cmpN_ne (a:=X % Y * U / Y + 1) (b:=U) (Uh HC)
 obtain ⟨CV,hCV⟩:∃ v,cmpN (X % Y * U / Y + 1) U = v:=⟨_,rfl⟩
 rw [hCV] at KC hcn
 have tc1:(CV == 0) = false:=by simp [hcn]
 clear hCV
 have HKC:=Hj KC
 clear KC
 go_wp2_with fail
 refine (Uh HKC).mono ?_
 rintro _ _ ⟨rfl,jj,rfl⟩
 clear HKC
 go_wp2_with fail
 go_ret2
 have hb9:=bel_drewN (Uh HB9) jj
 obtain ⟨f1,f2,f3,f4,f5,f6⟩:=Uh HF
 refine ⟨aq,mq,cq,ai,mi,ci,X / Y,X % Y * U / Y + 1,rfl,⟨(Uh S9).1.drewN jj,(Uh S9).2.2.drewN jj⟩,⟨?_,(by have:=Uh HC; omega)⟩,⟨f4,f5⟩,(Uh HBa).trans (hb9.mono (Uh HBa).size)⟩
 rw [f1]
 simp
end Go.Proofs.YtmnlhnmlgncedaaGreatDoor
