/- Dv6 -/
import Derived.Test.YtcajmdfcanopnaaDoorDv5
import Derived.Test.YtcajmdfcanopnaaDoorKarS
namespace Go.Proofs.YtcajmdfcanopnaaDoor
open Go.RowKit Go.Deep
set_option linter.unusedVariables false
def QRPost (w w':World) (q r:Nat) (e:Ending):Prop :=
 ∃ aq mq zq ar mr zr,e = .returned (.tuple #[.slice aq mq mq,.slice ar mr mr]) ∧ Sl w' aq mq mq zq ∧ Rep q zq ∧ NewAt w.heap.size aq ∧ Sl w' ar mr mr zr ∧ Rep r zr ∧ NewAt w.heap.size ar ∧ (∀ x y,aq = some x → ar = some y → x.block ≠ y.block) ∧ Below w.heap.size w w'

theorem make_dif1 (n l:Nat) (hle:l ≤ n) (h:n ≤ 70368744177000) (w:World):(Instr.makeSlice 54 (.int .i64 ((n:Int) - (l:Int) + 1)) (.int .i64 ((n:Int) - (l:Int) + 1))).run Tryd.prog w = .ok (.slice (some ⟨w.heap.size,0,none⟩) (n - l + 1) (n - l + 1)) (w.alloc (.cells (madeCells #[.int .u32 0] (n - l + 1)) 68)):=by
 have:=make_len (n - l + 1) (by omega) w
 rw [show ((n - l + 1:Nat):Int) = (n:Int) - (l:Int) + 1 from by omega] at this
 exact this

theorem qr_unique {a b s Q t:Nat} (hb:0 < b) (h:t + Q * (b * 2 ^ s) = a * 2 ^ s) (hlt:t < b * 2 ^ s):Q = a / b ∧ t / 2 ^ s = a % b:=by
 have hp:0 < 2 ^ s:=Nat.pow_pos (by decide)
 generalize 2 ^ s = S at *
 have h1:t = S * (t / S):=by
  have:S ∣ t:=by
   have d1:S ∣ t + Q * (b * S):=by rw [h]; exact Nat.dvd_mul_left _ _
   have d2:S ∣ Q * (b * S):=by rw [← Nat.mul_assoc]; exact Nat.dvd_mul_left _ _
   exact (Nat.dvd_add_left d2).1 d1
  exact (Nat.mul_div_cancel' this).symm
 generalize t / S = r at *
 subst h1
 have h2:S * (r + Q * b) = S * a:=by
  rw [Nat.mul_add,Nat.mul_comm S a,← h,Nat.mul_comm S (Q * b),Nat.mul_assoc]
 have h3:r + Q * b = a:=Nat.eq_of_mul_eq_mul_left hp h2
 have h4:r < b:=by
  rw [Nat.mul_comm b] at hlt
  exact Nat.lt_of_mul_lt_mul_left hlt
 subst h3
 constructor
 ·rw [Nat.add_mul_div_right _ _ hb,Nat.div_eq_of_lt h4,Nat.zero_add]
 ·rw [Nat.add_mul_mod_self_right,Nat.mod_eq_of_lt h4]

theorem lg_start {xs ys:List Nat} {n1 n2 s:Nat} (ox:Ok xs) (hl1:xs.length = n1) (hl2:ys.length = n2) (hge:4294967296 ^ (ys.length - 1) ≤ val ys) (hn:1 ≤ n2) (hle:n2 ≤ n1):val xs * 2 ^ s < val ys * 2 ^ s * 4294967296 ^ (n1 - n2 + 1):=by
 have hp:0 < 2 ^ s:=Nat.pow_pos (by decide)
 rw [Nat.mul_right_comm]
 refine Nat.mul_lt_mul_of_pos_right ?_ hp
 refine Nat.lt_of_lt_of_le (val_lt ox) ?_
 rw [hl1,show n1 = (ys.length - 1) + (n1 - n2 + 1) from by omega,Nat.pow_add]
 rw [show (ys.length - 1) + (n1 - n2 + 1) - n2 + 1 = n1 - n2 + 1 from by omega]
 exact Nat.mul_le_mul_right _ hge

theorem lg_rest {f:Nat → Nat} {n N V:Nat} (hn:n ≤ N) (h:valF f N < V) (hV:V < 4294967296 ^ n):valF f n = valF f N:=by
 have e:=valF_add f n (N - n)
 rw [show n + (N - n) = N from by omega] at e
 rcases Nat.eq_zero_or_pos (valF (fun i => f (n + i)) (N - n)) with k | k
 ·rw [k] at e; omega
 ·exfalso
  have:4294967296 ^ n * 1 ≤ 4294967296 ^ n * valF (fun i => f (n + i)) (N - n):=Nat.mul_le_mul_left _ k
  omega

def QRF (w w':World) (q r:Nat) (e:Ending):Prop :=
 ∃ aq mq zq ar mr zr,e = .returned (.tuple #[.slice aq mq mq,.slice ar mr mr]) ∧ Sl w' aq mq mq zq ∧ Rep q zq ∧ NewAt w.heap.size aq ∧ Sl w' ar mr mr zr ∧ Rep r zr ∧ NewAt w.heap.size ar ∧ (∀ x y,aq = some x → ar = some y → x.block ≠ y.block) ∧ Below w.heap.size w w' ∧ Fz w' ar mr
theorem QRF.post {w w':World} {q r:Nat} {e:Ending} (h:QRF w w' q r e):QRPost w w' q r e:=by
 obtain ⟨aq,mq,zq,ar,mr,zr,h1,h2,h3,h4,h5,h6,h7,h8,h9,_⟩:=h
 exact ⟨aq,mq,zq,ar,mr,zr,h1,h2,h3,h4,h5,h6,h7,h8,h9⟩

set_option maxHeartbeats 8000000 in
theorem divLong_someF (b1 o1 n1 c1 b2 o2 n2 c2:Nat) (xs ys:List Nat) (w:World) (h1:Sl w (some ⟨b1,o1,none⟩) n1 c1 xs) (h2:Sl w (some ⟨b2,o2,none⟩) n2 c2 ys) (ox:Ok xs) (oy:Ok ys) (ny:Norm ys) (hn1:n1 ≤ 2048) (hn2:2 ≤ n2) (hle:n2 ≤ n1) :
  Calls Tryd.prog 82 #[.slice (some ⟨b1,o1,none⟩) n1 c1,.slice (some ⟨b2,o2,none⟩) n2 c2] w fun e w' => QRF w w' (val xs / val ys) (val xs % val ys) e:=by
 have hl1:=h1.len
 have hl2:=h2.len
 have hy0:ys ≠ []:=by intro e; subst e; simp at hl2; omega
 have ht:ys.getD (n2 - 1) 0 ≠ 0:=by rw [← hl2]; exact ny.resolve_left hy0
 have bt:=oy.getD (n2 - 1)
 have ct:w.cell? ⟨b2,o2 + (n2 - 1),none⟩ = some (.int .u32 (ys.getD (n2 - 1) 0:Nat)):=by
  rcases h2.cells with e | ⟨b,o,e,hc⟩
  ·exact absurd e hy0
  ·cases e; exact hc _ (by omega)
 have bl1:=bl_pos _ ht (by omega)
 have bl2:Lib.bitLen (ys.getD (n2 - 1) 0) ≤ 32:=Lib.bitLen_le _ 32 (by omega) (by omega)
 obtain ⟨s,hs⟩:∃ s,Lib.bitLen (ys.getD (n2 - 1) 0) + s = 32:=⟨32 - Lib.bitLen (ys.getD (n2 - 1) 0),by omega⟩
 have KZ:=lz32_any (ys.getD (n2 - 1) 0) w bt
 rw [show (32:Int) - (Lib.bitLen (ys.getD (n2 - 1) 0):Int) = (s:Int) from by omega] at KZ
 have hs31:s ≤ 31:=by omega
 have KZ':=Hj KZ
 have KV:=Hj (shl_any _ n2 c2 ys w s h2 oy (by omega) (by omega))
 have HV:=Hj (fun (zs:List Nat) (hr:Rep (val ys * 2 ^ s) zs) => norm_shift hl2 (by omega) oy hs ht hr)
 have HX:=Hj h1
 have HL1:=Hj hl1
 have HL2:=Hj hl2
 have j1:((n2:Int) - 1).toNat = n2 - 1:=by omega
 have hvy:0 < val ys:=by
  have a:=val_ge_of_norm ny hy0
  have b:=pow_pos (ys.length - 1)
  omega
 have hgeY:=Hj (val_ge_of_norm ny hy0)
 generalize ys.getD (n2 - 1) 0 = t at ct KZ'
 clear KZ h1 h2 hs bl1 bl2 bt ht hl1 hl2
 go_enter Tryd.func82,Tryd.ntmps82
 go_wp2_with fail
 refine (Uh KZ').mono ?_
 rintro e w' ⟨rfl,hw⟩
 obtain rfl:=hw.symm
 clear hw
 go_wp2_with fail
 refine (Uh KV).mono ?_
 rintro e w1 ⟨av,mv,vs,rfl,hsv,hrv,hav,hbv⟩
 have hvl:=Uh HV vs hrv
 have hmv:n2 = mv:=by rw [← hsv.len]; exact hvl.1.symm
 subst hmv
 have htv:=hvl.2
 have hvne:vs ≠ []:=by intro e; have:=hvl.1; rw [e] at this; simp at this; omega
 obtain ⟨bv,ov,rfl,hvc⟩:=hsv.cells.resolve_left hvne
 have hbvn:w.heap.size ≤ bv:=hav _ rfl
 have hbvl:bv < w1.heap.size:=World.block_lt_of_cell? _ _ (hvc 0 (by have:=hvl.1; omega))
 have HVL:=Hj hvl.1
 have HVR:=Hj hrv
 have HVC:=Hj hvc
 have HB1:=Hj hbv
 have hmk:=make_len1 n1 (by omega)
 have HS1:=Hj ((Uh HX).below hbv)
 clear hvl hsv hrv hav hbv hvc hvne KV HV KZ'
 have KX:=Hj (shl_any _ n1 c1 xs (w1.alloc (.cells (madeCells #[.int .u32 0] (n1 + 1)) 68)) s ((Uh HS1).below ((Below.refl w1.heap.size w1).alloc (Nat.le_refl _) _)) ox hn1 (by omega))
 have HP1:=Hj (Part.of_zero (Fn.made w1 (n1 + 1) 68))
 have HB2:=Hj ((Uh HB1).trans (((Below.refl w1.heap.size w1).alloc (Nat.le_refl _) (.cells (madeCells #[.int .u32 0] (n1 + 1)) 68)).mono (Uh HB1).size))
 have HVC2:=Hj ((Uh HVC).below ((Below.refl w1.heap.size w1).alloc (Nat.le_refl _) (.cells (madeCells #[.int .u32 0] (n1 + 1)) 68)))
 go_wp2_with fail
 refine (Uh KX).mono ?_
 rintro e w2 ⟨ax,mx,zs,rfl,hsx,hrx,hax,hbx⟩
 have hmx:mx ≤ n1 + 1:=by
  rw [← hsx.len]
  refine rep_len_le' hrx ?_
  have a1:=val_lt ox
  rw [Uh HL1] at a1
  have a2:(2:Nat) ^ s ≤ 4294967296:=Nat.le_trans (Nat.pow_le_pow_right (by decide) (show s ≤ 32 by omega)) (by decide)
  rw [Nat.pow_succ]
  exact Nat.mul_lt_mul_of_lt_of_le a1 a2 (by decide)
 have HP2:=Hj ((Uh HP1).below hbx)
 have HVC3:=Hj ((Uh HVC2).below hbx)
 have HB3:=Hj ((Uh HB2).trans (hbx.mono (Uh HB2).size))
 have hsz2:w1.heap.size < w2.heap.size:=by have:=hbx.size; simp at this; omega
 have HRX:=Hj hrx
 have HSX:=Hj hsx
 have hmk2:=make_dif1 n1 n2 hle (by omega)
 clear hsx hrx hax hbx KX HP1 HB2 HVC2 HVC HB1 hmk
 go_wp2_with (refine wpList_copy_part rfl _ _ rfl w1.heap.size 0 (n1 + 1) (n1 + 1) ax mx mx rfl rfl (Uh HP2) zs (Uh HSX) (Uh HRX).ok hmx ?_; intro w3 hu3 hp3; have HU3:=Hj hu3; have HP3:=Hj hp3; clear hu3 hp3 HP2)
 have hsz3:w2.heap.size ≤ w3.heap.size:=(Uh HU3).size
 have hbu:w.heap.size ≤ w1.heap.size:=by have:=(Uh HB3).size; omega
 have hV:=Hj (show val vs < 4294967296 ^ n2 from by have:=val_lt (Uh HVR).ok; rwa [Uh HVL] at this)
 have HR0:=Hj (show ∃ f,LgR (w3.alloc (.cells (madeCells #[.int .u32 0] (n1 - n2 + 1)) 68)) w w1.heap.size w3.heap.size bv ov n1 n2 (n1 - n2 + 1) vs (val xs * 2 ^ s) (val vs) (n1 - n2 + 1) f (fun _ => 0) from by
  obtain ⟨f,F,hf,hv⟩:=Uh HP3
  have bel:=(Below.refl w3.heap.size w3).alloc (Nat.le_refl _) (.cells (madeCells #[.int .u32 0] (n1 - n2 + 1)) 68)
  rw [(Uh HRX).val] at hv
  refine ⟨f,F.below bel,hf,Fn.made w3 (n1 - n2 + 1) 68,fun _ _ => by decide,?_,?_,((Uh HU3).cells (Uh HVC3) (.inl (by omega))).below bel,?_⟩
  ·rw [Nat.sub_self]; simp only [valF,Nat.zero_mul,Nat.mul_zero,Nat.add_zero]; exact hv
  ·rw [hv,(Uh HVR).val]
   exact lg_start ox (Uh HL1) (Uh HL2) (Uh hgeY) (by omega) hle
  ·exact (Uh HB3).trans (((Uh HU3).below hbu (Uh HB3).size).trans (bel.mono (by omega))))
 have hbq:w1.heap.size ≠ w3.heap.size:=by omega
 have hb2:bv ≠ w1.heap.size:=by omega
 have hb3:bv ≠ w3.heap.size:=by omega
 have hq0:w.heap.size ≤ w3.heap.size:=by omega
 generalize hbuE:w1.heap.size = bu at *
 generalize hbqE:w3.heap.size = bq at *
 clear HP3 HU3 HVC3 HB3 hmk2 HSX HS1 HX
 go_loopw [10] (fun i wr => ∃ k:Nat,∃ f g:Nat → Nat,k ≤ n1 - n2 + 1 ∧ i = .int .i64 ((k:Int) - 1) ∧ LgR wr w bu bq bv ov n1 n2 (n1 - n2 + 1) vs (val xs * 2 ^ s) (val vs) k f g) (fun i _ => (intOf i + 1).toNat)
 case atStart =>
  obtain ⟨f,hR⟩:=Uh HR0
  exact ⟨n1 - n2 + 1,f,_,Nat.le_refl _,by congr 1; omega,hR⟩
 case round =>
  clear HR0
  obtain ⟨k,f,g,hk,rfl,hR⟩:=hrel
  rcases k with _ | k
  ·have hV':=Uh hV
   have hlt:=hR.lt
   rw [Nat.pow_zero,Nat.mul_one] at hlt
   have hrest:=lg_rest (n:=n2) (by omega) hlt hV'
   have htot:=hR.tot
   simp only [Nat.pow_zero,Nat.one_mul,Nat.zero_add,Nat.sub_zero] at htot
   rw [(Uh HVR).val] at htot hlt
   have hqr:=qr_unique hvy htot hlt
   have KT:=trim_any (some ⟨bq,0,none⟩) (n1 - n2 + 1) (n1 - n2 + 1) _ wr.drew ((fn_drew hR.qn).sl (Nat.le_refl _) (by unfold maxLen; omega)) (lst_ok hR.qk)
   rw [lst_val,hqr.1] at KT
   have fl:Fn wr.drew bu 0 n2 f:=fun i hi => hR.fn i (by omega)
   have KS:=shr_anyF (some ⟨bu,0,none⟩) n2 (n1 + 1) _ wr.drew s (fl.sl (by omega) (by unfold maxLen; omega)) (lst_ok (fun i hi => hR.ok i (by omega))) (by omega) (by omega)
   rw [lst_val,hrest,hqr.2] at KS
   have KT':=Hj KT
   have KS':=Hj KS
   have HB:=Hj hR.bel.drew
   have hbql:bq < wr.drew.heap.size:=World.block_lt_of_cell? _ _ (hR.qn 0 (by omega)).1
   clear KT KS fl hqr htot hrest hlt hV' hR
   have t1:¬ (0:Int) ≤ ((0:Nat):Int) - 1:=by omega
   have t2:(n2:Int) ≤ (n1:Int) + 1:=by omega
   go_wp2_with fail
   go_region_with (first | (go_at_call 75; refine (Uh KT').mono ?_; rintro e w' ⟨aq,mq,zq,rfl,hsq,hrq,haq,hw⟩; obtain rfl:=hw.symm; have HSQ:=Hj hsq; have HRQ:=Hj hrq; have HAQ:=Hj haq; clear hsq hrq haq KT') | (go_at_call 88; refine (Uh KS').mono ?_; rintro e w6 ⟨ar,mr,zr,rfl,hsr,hrr,har,hbr,hfr⟩; have HZ:=Hj (And.intro hsr (And.intro hrr (And.intro har (And.intro hbr hfr)))); clear hsr hrr har hbr hfr KS'))
   all_goals
    go_wp2
    go_ret2
    obtain ⟨hsr,hrr,har,hbr,hfr⟩:=Uh HZ
    refine ⟨aq,mq,zq,ar,mr,zr,rfl,(Uh HSQ).below hbr,Uh HRQ,?_,hsr,hrr,fun x hx => Nat.le_trans (Uh HB).size (har x hx),?_,(Uh HB).trans (hbr.mono (Uh HB).size),hfr⟩
    ·intro x hx
     rcases Uh HAQ with e | e
     ·rw [e] at hx; cases hx; exact hq0
     ·rw [e] at hx; cases hx
    ·intro x y hx hy
     have:=har y hy
     rcases Uh HAQ with e | e
     ·rw [e] at hx; cases hx; simp only at *; omega
     ·rw [e] at hx; cases hx
  ·have t0:((k + 1:Nat):Int) - 1 = (k:Int):=by omega
   rw [t0]
   have hkm:k < n1 - n2 + 1:=by omega
   have t1:(k:Int) < (n1:Int) - (n2:Int) + 1:=by omega
   have t2:(k:Int) + (n2:Int) + 1 ≤ (n1:Int) + 1:=by omega
   have t3:k + n2 + 1 - k = n2 + 1:=by omega
   have hwin:=hR.win (by omega) hkm (Uh hV)
   have fw:=hR.fn.part k (n2 + 1) (by omega)
   rw [Nat.zero_add] at fw
   have KQ:=Hj (takeQ_any bu k n2 bv ov n2 (fun i => f (k + i)) vs wr hn2 (by omega) (Uh HVL) (Nat.le_refl _) (by unfold maxLen; omega) (Uh HVR).ok (fun i hi => hR.ok _ (by omega)) htv hwin.1 fw hR.vc hb2)
   have HR:=Hj hR
   have q1:=(hR.qn k hkm).1
   have q2:=(hR.qn k hkm).2
   rw [Nat.zero_add] at q1 q2
   clear hR hwin fw
   go_wp2_with fail
   refine (Uh KQ).mono ?_
   rintro e w5 ⟨q,f',rfl,hqb,hF,hok,hval,hlt,u⟩
   have hs:=(Uh HR).step (by omega) hkm (Uh hV) hbq.symm hb2 hb3 hbu hq0 hqb hF hok hval hlt u
   rw [Nat.zero_add] at hs
   have q3:=(u.fn (Uh HR).qn (.inl hbq.symm) k hkm).1
   have q4:=(u.fn (Uh HR).qn (.inl hbq.symm) k hkm).2
   rw [Nat.zero_add] at q3 q4
   have HS:=Hj hs
   clear hs hF hok hval hlt u KQ q1 q2
   go_wp2
   exact ⟨⟨k,_,_,by omega,rfl,Uh HS⟩,by simp [intOf]⟩

theorem divLong_some (b1 o1 n1 c1 b2 o2 n2 c2:Nat) (xs ys:List Nat) (w:World) (h1:Sl w (some ⟨b1,o1,none⟩) n1 c1 xs) (h2:Sl w (some ⟨b2,o2,none⟩) n2 c2 ys) (ox:Ok xs) (oy:Ok ys) (ny:Norm ys) (hn1:n1 ≤ 2048) (hn2:2 ≤ n2) (hle:n2 ≤ n1) :
  Calls Tryd.prog 82 #[.slice (some ⟨b1,o1,none⟩) n1 c1,.slice (some ⟨b2,o2,none⟩) n2 c2] w fun e w' => QRPost w w' (val xs / val ys) (val xs % val ys) e :=
 (divLong_someF b1 o1 n1 c1 b2 o2 n2 c2 xs ys w h1 h2 ox oy ny hn1 hn2 hle).mono fun _ _ h => h.post
end Go.Proofs.YtcajmdfcanopnaaDoor
