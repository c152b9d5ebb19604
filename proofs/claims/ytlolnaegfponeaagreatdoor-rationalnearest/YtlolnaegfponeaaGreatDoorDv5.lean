/- Dv4 -/
import Derived.Test.YtlolnaegfponeaaGreatDoorDv3
namespace Go.Proofs.YtlolnaegfponeaaGreatDoor
open Go.RowKit Go.Deep
set_option linter.unusedVariables false
theorem three_top (f:Nat → Nat) (n:Nat) (hn:2 ≤ n):valF f (n + 1) = valF f (n - 2) + 4294967296 ^ (n - 2) * (f (n - 2) + 4294967296 * (f (n - 1) + 4294967296 * f n)):=by
 obtain ⟨m,rfl⟩:∃ m,n = m + 2:=⟨n - 2,by omega⟩
 simp only [valF,Nat.add_sub_cancel]
 rw [show m + 2 - 1 = m + 1 from by omega,Nat.pow_succ 4294967296 (m + 1),Nat.pow_succ 4294967296 m]
 generalize 4294967296 ^ m = P
 simp only [Nat.mul_add,Nat.mul_assoc]
 omega

theorem two_top (f:Nat → Nat) (n:Nat) (hn:2 ≤ n):valF f n = valF f (n - 2) + 4294967296 ^ (n - 2) * (f (n - 2) + 4294967296 * f (n - 1)):=by
 obtain ⟨m,rfl⟩:∃ m,n = m + 2:=⟨n - 2,by omega⟩
 simp only [valF,Nat.add_sub_cancel]
 rw [show m + 2 - 1 = m + 1 from by omega,Nat.pow_succ]
 generalize 4294967296 ^ m = P
 rw [Nat.mul_add,Nat.mul_assoc]
 omega

theorem gs_of {n:Nat} {f:Nat → Nat} {ys:List Nat} (hn:2 ≤ n) (hl:ys.length = n) (oy:Ok ys) (ok:∀ i,i < n + 1 → f i < 4294967296) (ht:2147483648 ≤ ys.getD (n - 1) 0) (hu:valF f (n + 1) < val ys * 4294967296) :
  Gs (4294967296 ^ (n - 2)) (f n) (f (n - 1)) (f (n - 2)) (valF f (n - 2)) (ys.getD (n - 1) 0) (ys.getD (n - 2) 0) (valF (fun i => ys.getD i 0) (n - 2)):=by
 refine ⟨pow_pos _,ok n (by omega),ok _ (by omega),ok _ (by omega),valF_lt (fun i hi => ok i (by omega)),oy.getD _,ht,oy.getD _,valF_lt (fun i hi => oy.getD _),?_⟩
 rw [← three_top f n hn]
 have:=two_top (fun i => ys.getD i 0) n hn
 rw [← this]
 rw [← hl,valF_list,hl]
 exact hu

theorem tq_right {P X F t c gV U V g:Nat} (h1:X + g * V = F + P * c) (hU:U = F + P * t) (h:c ≤ t):X + P * (t - c) + g * V = U:=by
 subst hU
 have:P * t = P * (t - c) + P * c:=by rw [← Nat.mul_add,Nat.sub_add_cancel h]
 omega

theorem tq_short {P X X2 F t c d U V g:Nat} (h1:X + g * V = F + P * c) (h2:X2 + P * d = X + V) (hU:U = F + P * t) (h:t < c) (hd:d ≤ 1) (hX:X < P) (hX2:X2 < P) (hg:g * V < U + V):c = t + 1 ∧ d = 1 ∧ 1 ≤ g ∧ X2 + (g - 1) * V = U ∧ X2 < V:=by
 subst hU
 have hc1:P * c = P * t + P * (c - t):=by rw [← Nat.mul_add]; congr 1; omega
 have hc2:P * 1 ≤ P * (c - t):=Nat.mul_le_mul_left _ (by omega)
 have hd1:d = 1:=by
  rcases Nat.lt_or_ge d 1 with k | k
  ·exfalso
   have:d = 0:=by omega
   subst this
   simp at h2
   omega
  ·omega
 subst hd1
 have hc3:c = t + 1:=by
  rcases Nat.lt_or_ge (c - t) 2 with k | k
  ·omega
  ·exfalso
   have:P * 2 ≤ P * (c - t):=Nat.mul_le_mul_left _ k
   omega
 subst hc3
 rw [Nat.mul_add] at h1
 have hg1:1 ≤ g:=by
  rcases Nat.eq_zero_or_pos g with k | k
  ·exfalso; subst k; simp at h1; omega
  ·exact k
 have e:(g - 1) * V + V = g * V:=by
  obtain ⟨k,rfl⟩:∃ k,g = k + 1:=⟨g - 1,by omega⟩
  rw [Nat.add_sub_cancel,Nat.add_mul,Nat.one_mul]
 exact ⟨rfl,rfl,hg1,by omega,by omega⟩

def TqPost (w:World) (bu ou n:Nat) (f:Nat → Nat) (V:Nat) (e:Ending) (w':World):Prop :=
 ∃ (q:Nat) (f':Nat → Nat),e = .returned (.int .u32 (q:Nat)) ∧ q < 4294967296 ∧ Fn w' bu ou (n + 1) f' ∧ (∀ i,i < n + 1 → f' i < 4294967296) ∧ valF f' (n + 1) + q * V = valF f (n + 1) ∧ valF f' (n + 1) < V ∧ Upd bu ou (ou + (n + 1)) w w'

theorem Fn.low {w:World} {b off n:Nat} {f:Nat → Nat} (h:Fn w b off (n + 1) f):Fn w b off n f:=fun i hi => h i (by omega)

theorem Fn.top {w:World} {b off n v:Nat} {g:Nat → Nat} (h:Fn w b off n g) (k:w.cell? ⟨b,off + n,none⟩ = some (.int .u32 (v:Nat))) (kf:w.frozen? ⟨b,off + n,none⟩ = false):Fn w b off (n + 1) (fun i => if i = n then v else g i):=by
 intro i hi
 by_cases e:i = n
 ·subst e; simp only [if_true]; exact ⟨k,kf⟩
 ·simp only [e,if_false]; exact h i (by omega)

theorem valF_top (n v:Nat) (g:Nat → Nat):valF (fun i => if i = n then v else g i) (n + 1) = valF g n + 4294967296 ^ n * v:=by
 simp only [valF,if_true]
 rw [valF_congr (g:=g) (fun i hi => by rw [if_neg (by omega)])]

theorem Upd.setTop {b off n:Nat} {w w':World} (u:Upd b off (off + n) w w') (v:Value):Upd b off (off + (n + 1)) w (w'.setCell ⟨b,off + n,none⟩ v) :=
 (u.mono (Nat.le_refl _) (by omega)).set _ _ (by omega) (by omega)

theorem setTop_fn {b off n:Nat} {w:World} {g:Nat → Nat} {v x:Nat} (h:Fn w b off n g) (k:w.cell? ⟨b,off + n,none⟩ = some (.int .u32 (x:Nat))) (kf:w.frozen? ⟨b,off + n,none⟩ = false):Fn (w.setCell ⟨b,off + n,none⟩ (.int .u32 (v:Nat))) b off n g ∧ (w.setCell ⟨b,off + n,none⟩ (.int .u32 (v:Nat))).cell? ⟨b,off + n,none⟩ = some (.int .u32 (v:Nat)) ∧ (w.setCell ⟨b,off + n,none⟩ (.int .u32 (v:Nat))).frozen? ⟨b,off + n,none⟩ = false:=by
 refine ⟨?_,World.cell?_setCell_same _ _ _ k,by rw [World.frozen?_setCell]; exact kf⟩
 intro i hi
 rw [World.cell?_setCell_other _ _ _ _ (by intro h; injection h with h1 h2; omega),World.frozen?_setCell]
 exact h i hi

theorem fn_drew {w:World} {b off n:Nat} {f:Nat → Nat} (h:Fn w b off n f):Fn w.drew b off n f:=h
theorem cells_drew {w:World} {b off:Nat} {ys:List Nat} (h:Cells w b off ys):Cells w.drew b off ys:=h

set_option maxHeartbeats 4000000 in
theorem takeQ_any (bu ou n bv ov cv:Nat) (f:Nat → Nat) (ys:List Nat) (w:World) (hn:2 ≤ n) (hm:n ≤ 1000000) (hl:ys.length = n) (hcv:n ≤ cv) (hcm:cv ≤ maxLen) (oy:Ok ys) (ok:∀ i,i < n + 1 → f i < 4294967296) (ht:2147483648 ≤ ys.getD (n - 1) 0) (hu:valF f (n + 1) < val ys * 4294967296)
  (h:Fn w bu ou (n + 1) f) (hy:Cells w bv ov ys) (hb:bv ≠ bu) :
  Calls Tryz.prog 212 #[.slice (some ⟨bu,ou,none⟩) (n + 1) (n + 1),.slice (some ⟨bv,ov,none⟩) n cv] w fun e w' => TqPost w bu ou n f (val ys) e w':=by
 have gs:=gs_of hn hl oy ok ht hu
 have KG:=guess_any bu ou n (n + 1) bv ov cv _ _ _ _ _ _ _ _ w gs hn (by omega) (h n (by omega)).1 (h (n - 1) (by omega)).1 (h (n - 2) (by omega)).1 (hy (n - 1) (by omega)) (hy (n - 2) (by omega))
 have e2:=two_top (fun i => ys.getD i 0) n hn
 rw [← three_top f n hn,← e2] at KG
 rw [← hl,valF_list,hl] at KG
 clear gs e2
 have HT:=h n (by omega)
 have bt:=ok n (by omega)
 have HL:=Hd hl
 have HY:=Hd hy
 have HF:=Hd h
 have HO:=Hd ok
 have KG':=Hd KG
 clear KG hl hy h ok ht hu
 go_enter Tryz.func212,Tryz.ntmps212
 go_wp2_with fail
 refine (Uh KG').mono ?_
 rintro e w1 ⟨⟨g,rfl,hg,hlt,hgt⟩,kk,hw⟩
 have f1:Fn w1 bu ou (n + 1) f:=by rw [hw]; exact fn_drewN (Uh HF) kk
 have u1:Upd bu ou (ou + n) w w1:=by rw [hw]; exact (Upd.refl _ _ _ _).drewN kk
 have y1:Cells w1 bv ov ys:=u1.cells (Uh HY) (.inl hb)
 have KS:=Hd (subTimes_any bu ou n n bv ov cv g f ys w1 (by omega) (Uh HL) oy (fun i hi => Uh HO i (by omega)) f1.low y1 hb hg)
 have HLT:=Hd hlt
 have HGT:=Hd hgt
 have U1:=Hd u1
 have F1:=Hd f1
 have s1:(n:Int) ≤ (n:Int) + 1:=by omega
 have s2:(n:Int) < (n:Int) + 1:=by omega
 clear hlt hgt hw f1 u1 y1 KG' HT
 go_wp2_with fail
 refine (Uh KS).mono ?_
 rintro e w2 ⟨c,x,rfl,hc,fx,ox,hx,u2⟩
 have k2:=(u2.cell (ou + n) (.inr (Nat.le_refl _))).trans (Uh F1 n (by omega)).1
 have k2f:=(u2.froz (ou + n)).trans (Uh F1 n (by omega)).2
 have FX:=Hd fx
 have OX:=Hd ox
 have EX:=Hd hx
 have U2:=Hd ((Uh U1).trans u2)
 have Y2:=Hd (u2.cells ((Uh U1).cells (Uh HY) (.inl hb)) (.inl hb))
 generalize hft:f n = t at *
 have HFT:=Hd hft
 clear fx ox hx u2 KS hft
 have hUt:valF f (n + 1) = valF f n + 4294967296 ^ n * t:=by rw [← Uh HFT]; rfl
 have HU:=Hd hUt
 clear hUt
 have XL:=Hd (valF_lt (Uh OX))
 by_cases hs:t < c
 ·have hs':(t:Int) < (c:Int):=by omega
  have e4:((t:Int) - (c:Int)) % 4294967296 = ((lim t c 0:Nat):Int):=by
   have:=sub_mod t c 0 bt hc (by decide)
   rw [show (t:Int) - (c:Int) - ((0:Nat):Int) = (t:Int) - (c:Int) from by omega] at this
   exact this
  have g1:1 ≤ g:=by
   rcases Nat.eq_zero_or_pos g with k | k
   ·exfalso
    have h1:=Uh EX
    have h2:=Uh XL
    rw [k,Nat.zero_mul] at h1
    have h3:4294967296 ^ n * 1 ≤ 4294967296 ^ n * c:=Nat.mul_le_mul_left _ (by omega)
    omega
   ·exact k
  have by':=lim_lt t c 0
  have HYV:=Hd (show lim t c 0 = (4294967296 + t - c) % 4294967296 from by unfold lim; omega)
  generalize lim t c 0 = y at *
  have S3:=Hd (setTop_fn (v:=y) (Uh FX) k2 k2f)
  have Y3:=Hd (((Upd.refl bu (ou + n) (ou + n + 1) w2).set (ou + n) (.int .u32 (y:Nat)) (Nat.le_refl _) (by omega)).cells (Uh Y2) (.inl hb))
  have U3:=Hd ((Uh U2).setTop (.int .u32 (y:Nat)))
  have KA:=Hd (fun (v:World) (hF:Fn v bu ou n x) (hy:Cells v bv ov ys) => addTo_any bu ou n n n cv (some ⟨bv,ov,none⟩) x ys v ⟨Uh HL,hcv,hcm,.inr ⟨_,_,rfl,hy⟩⟩ (fun z hz _ => by cases hz; exact hb) (Nat.le_refl _) (by unfold maxLen; omega) oy (Uh OX) hF)
  go_wp2_with fail
  go_region_with (go_at_call 193; refine (Uh KA _ (fn_drew (Uh S3).1) (cells_drew (Uh Y3))).mono ?_; rintro e w4 ⟨x2,d,rfl,hd,f4,o4,v4,u4⟩; have k4:=(u4.cell (ou + n) (.inr (Nat.le_refl _))).trans (Uh S3).2.1; have k4f:=(u4.froz (ou + n)).trans (Uh S3).2.2; have F4:=Hd f4; have O4:=Hd o4; have V4:=Hd v4; have U4:=Hd (((Uh U3).drew).trans (u4.mono (Nat.le_refl _) (by omega))); have eyd:((y:Int) + (d:Int)) % 4294967296 = (((y + d) % 4294967296:Nat):Int):=(by omega); clear f4 o4 v4 u4 KA)
  all_goals
   generalize hsd:(y + d) % 4294967296 = sd at eyd
   have HSD:=Hd hsd
   clear hsd
   go_wp2
   go_ret
   obtain ⟨r1,r2,r3,r4,r5⟩:=tq_short (Uh EX) (Uh V4) (Uh HU) hs hd (Uh XL) (valF_lt (Uh O4)) (Uh HGT)
   have hz:sd = 0:=by
    have h1:=Uh HSD
    have h2:=Uh HYV
    omega
   have ewr:IntKind.u32.wrap ((y:Int) + (d:Int)) = ((sd:Nat):Int):=by
    simp only [IntKind.wrap,IntKind.bits,IntKind.signed]
    first | (rw [← eyd]; rfl) | omega
   rw [ewr]
   have S5:=setTop_fn (v:=sd) (Uh F4) k4 k4f
   refine ⟨g - 1,_,?_,by omega,S5.1.top S5.2.1 S5.2.2,?_,?_,?_,((Uh U4).set _ _ (by omega) (by omega))⟩
   ·show Ending.returned (Value.int IntKind.u32 ((g:Int) - 1)) = _
    rw [show (g:Int) - 1 = ((g - 1:Nat):Int) from by omega]
   ·intro i hi
    by_cases e:i = n
    ·simp only [e,if_true]; omega
    ·simp only [e,if_false]; exact Uh O4 i (by omega)
   ·rw [valF_top,hz,Nat.mul_zero,Nat.add_zero]; exact r4
   ·rw [valF_top,hz,Nat.mul_zero,Nat.add_zero]; exact r5
 ·have hs':¬ (t:Int) < (c:Int):=by omega
  have S3:=Hd (setTop_fn (v:=t - c) (Uh FX) k2 k2f)
  have U3:=Hd ((Uh U2).setTop (.int .u32 ((t - c:Nat):Int)))
  have etc:((t - c:Nat):Int) = (t:Int) - (c:Int):=by omega
  rw [etc] at S3 U3
  clear etc
  go_wp2
  go_ret
  have r:=tq_right (gV:=0) (Uh EX) (Uh HU) (by omega)
  refine ⟨g,_,rfl,hg,(Uh S3).1.top (v:=t - c) (by rw [(Uh S3).2.1]; congr 2; omega) (Uh S3).2.2,?_,?_,?_,Uh U3⟩
  ·intro i hi
   by_cases e:i = n
   ·simp only [e,if_true]; omega
   ·simp only [e,if_false]; exact Uh OX i (by omega)
  ·rw [valF_top]; exact r
  ·rw [valF_top]
   have h1:=Uh HLT
   rw [Nat.add_mul,Nat.one_mul] at h1
   omega
theorem rep_len_le' {v j:Nat} {zs:List Nat} (h:Rep v zs) (hv:v < 4294967296 ^ j):zs.length ≤ j:=by
 rcases Nat.lt_or_ge j zs.length with hlt | hge
 ·exfalso
  have h1:=val_ge_of_norm h.norm (by intro e; subst e; simp at hlt)
  rw [h.val] at h1
  have h2:4294967296 ^ j ≤ 4294967296 ^ (zs.length - 1):=pow_mono (by omega)
  omega
 ·exact hge

theorem top_split {xs:List Nat} {n:Nat} (hl:xs.length = n) (h0:0 < n):val xs = val (xs.take (n - 1)) + 4294967296 ^ (n - 1) * xs.getD (n - 1) 0:=by
 rw [val_split xs (n - 1) (by omega),drop_cons (by omega),List.drop_eq_nil_of_le (by omega)]
 simp [val]

theorem norm_shift {ys zs:List Nat} {n s:Nat} (hl:ys.length = n) (h0:0 < n) (oy:Ok ys) (hbl:Lib.bitLen (ys.getD (n - 1) 0) + s = 32) (ht:ys.getD (n - 1) 0 ≠ 0) (hr:Rep (val ys * 2 ^ s) zs):zs.length = n ∧ 2147483648 ≤ zs.getD (n - 1) 0:=by
 have bt:=oy.getD (n - 1)
 have h1:=bl_lt _ _ (Nat.le_refl (ys.getD (n - 1) 0)) (by omega)
 have h2:=bl_ge _ _ (Nat.le_refl (ys.getD (n - 1) 0)) ht (by omega)
 have hb1:=bl_pos _ ht (by omega)
 have e:=top_split hl h0
 have hlo:=take_lt_pow oy (n - 1) (by omega)
 generalize ys.getD (n - 1) 0 = t at *
 generalize val (ys.take (n - 1)) = lo at *
 have p1:2 ^ Lib.bitLen t * 2 ^ s = 4294967296:=by rw [← Nat.pow_add,hbl]
 have p2:2 ^ (Lib.bitLen t - 1) * 2 ^ s = 2147483648:=by rw [← Nat.pow_add,show Lib.bitLen t - 1 + s = 31 from by omega]
 generalize 2 ^ Lib.bitLen t = T at *
 generalize 2 ^ (Lib.bitLen t - 1) = T' at *
 generalize 2 ^ s = S at *
 have q1:(t + 1) * S ≤ 4294967296:=by rw [← p1]; exact Nat.mul_le_mul_right _ h1
 have q2:2147483648 ≤ t * S:=by rw [← p2]; exact Nat.mul_le_mul_right _ h2
 have hpow:4294967296 ^ n = 4294967296 ^ (n - 1) * 4294967296:=by rw [← Nat.pow_succ]; congr 1; omega
 generalize hP:4294967296 ^ (n - 1) = P at *
 have hup:val ys * S < 4294967296 ^ n:=by
  rw [e,hpow]
  have a1:(lo + P * t) * S < (P * (t + 1)) * S ∨ S = 0:=by
   rcases Nat.eq_zero_or_pos S with k | k
   ·exact .inr k
   ·refine .inl (Nat.mul_lt_mul_of_pos_right ?_ k)
    rw [Nat.mul_add]; omega
  rcases a1 with a1 | a1
  ·rw [Nat.mul_assoc] at a1
   exact Nat.lt_of_lt_of_le a1 (Nat.mul_le_mul_left _ q1)
  ·rw [a1] at q2; omega
 have hdn:P * 2147483648 ≤ val ys * S:=by
  rw [e,Nat.add_mul,Nat.mul_assoc]
  exact Nat.le_trans (Nat.mul_le_mul_left P q2) (Nat.le_add_left _ _)
 have hP0:0 < P:=by rw [← hP]; exact pow_pos _
 have hlen:zs.length = n:=by
  have a:=rep_len_le' hr hup
  rcases Nat.lt_or_ge zs.length n with k | k
  ·exfalso
   have b:=val_lt hr.ok
   rw [hr.val] at b
   have c:4294967296 ^ zs.length ≤ P:=by rw [← hP]; exact pow_mono (by omega)
   omega
  ·omega
 refine ⟨hlen,?_⟩
 have ez:=top_split hlen h0
 rw [hr.val,hP] at ez
 have hz:=take_lt_pow hr.ok (n - 1) (by omega)
 rw [hP] at hz
 generalize zs.getD (n - 1) 0 = z at *
 rcases Nat.lt_or_ge z 2147483648 with k | k
 ·exfalso
  have:P * (z + 1) ≤ P * 2147483648:=Nat.mul_le_mul_left _ k
  rw [Nat.mul_add] at this
  omega
 ·exact k

structure LgR (wr w0:World) (bu bq bv ov n1 n2 m:Nat) (vs:List Nat) (A V k:Nat) (f g:Nat → Nat):Prop where
 fn:Fn wr bu 0 (n1 + 1) f
 ok:∀ i,i < n1 + 1 → f i < 4294967296
 qn:Fn wr bq 0 m g
 qk:∀ i,i < m → g i < 4294967296
 tot:valF f (n1 + 1) + 4294967296 ^ k * (valF (fun i => g (k + i)) (m - k) * V) = A
 lt:valF f (n1 + 1) < V * 4294967296 ^ k
 vc:Cells wr bv ov vs
 bel:Below w0.heap.size w0 wr

theorem mul_cancel {P a b:Nat} (hP:0 < P) (h:P * a < P * b):a < b:=Nat.lt_of_mul_lt_mul_left h

theorem lg_win {W rest lo P V Q t:Nat} (hP:0 < P) (h:t = lo + P * (W + Q * rest)) (hlt:t < V * (P * 4294967296)) (hV:V * 4294967296 ≤ Q) (hQ:0 < Q):W < V * 4294967296 ∧ rest = 0:=by
 have h1:P * (W + Q * rest) < P * (V * 4294967296):=by
  have:V * (P * 4294967296) = P * (V * 4294967296):=by rw [Nat.mul_left_comm]
  omega
 have h2:=mul_cancel hP h1
 refine ⟨by omega,?_⟩
 rcases Nat.eq_zero_or_pos rest with k | k
 ·exact k
 ·exfalso
  have:Q * 1 ≤ Q * rest:=Nat.mul_le_mul_left _ k
  omega

theorem lg_tot {t t' P W W' q V G:Nat} {A:Nat} (h:t + P * 4294967296 * (G * V) = A) (hw:W' + q * V = W) (h1:t' + P * W = t + P * W'):t' + P * ((q + 4294967296 * G) * V) = A:=by
 subst hw
 subst h
 rw [Nat.add_mul,Nat.mul_add P,Nat.mul_assoc 4294967296 G V,← Nat.mul_assoc P 4294967296]
 rw [Nat.mul_add] at h1
 omega

theorem LgR.win {wr w0:World} {bu bq bv ov n1 n2 m:Nat} {vs:List Nat} {A V k:Nat} {f g:Nat → Nat} (h:LgR wr w0 bu bq bv ov n1 n2 m vs A V (k + 1) f g) (hm:m + n2 = n1 + 1) (hk:k < m) (hV:V < 4294967296 ^ n2) :
  valF (fun i => f (k + i)) (n2 + 1) < V * 4294967296 ∧ valF (fun i => f (k + (n2 + 1 + i))) (n1 + 1 - k - (n2 + 1)) = 0:=by
 have e1:=valF_add f k (n1 + 1 - k)
 rw [show k + (n1 + 1 - k) = n1 + 1 from by omega] at e1
 have e2:=valF_add (fun i => f (k + i)) (n2 + 1) (n1 + 1 - k - (n2 + 1))
 rw [show n2 + 1 + (n1 + 1 - k - (n2 + 1)) = n1 + 1 - k from by omega] at e2
 rw [e2] at e1
 have hl:=h.lt
 rw [Nat.pow_succ] at hl
 refine lg_win (pow_pos k) e1 hl ?_ (pow_pos (n2 + 1))
 rw [Nat.pow_succ]
 exact Nat.mul_le_mul_right _ (Nat.le_of_lt hV)

def putWin (f f':Nat → Nat) (k n:Nat):Nat → Nat:=fun i => if i < k then f i else if i < k + n then f' (i - k) else f i

theorem putWin_fn {w w':World} {b N k n:Nat} {f f':Nat → Nat} (h:Fn w b 0 N f) (u:Upd b k (k + n) w w') (h':Fn w' b k n f') (hk:k + n ≤ N):Fn w' b 0 N (putWin f f' k n):=by
 intro i hi
 unfold putWin
 by_cases e1:i < k
 ·simp only [e1,if_true,Nat.zero_add]
  have:=h i hi
  rw [Nat.zero_add] at this
  exact ⟨(u.cell i (.inl e1)).trans this.1,(u.froz i).trans this.2⟩
 ·by_cases e2:i < k + n
  ·simp only [e1,e2,if_true,if_false,Nat.zero_add]
   have:=h' (i - k) (by omega)
   rw [show k + (i - k) = i from by omega] at this
   exact this
  ·simp only [e1,e2,if_false,Nat.zero_add]
   have:=h i hi
   rw [Nat.zero_add] at this
   exact ⟨(u.cell i (.inr (by omega))).trans this.1,(u.froz i).trans this.2⟩

theorem putWin_val (f f':Nat → Nat) (k n m:Nat):valF (putWin f f' k n) (k + (n + m)) + 4294967296 ^ k * valF (fun i => f (k + i)) n = valF f (k + (n + m)) + 4294967296 ^ k * valF f' n:=by
 have c1:=valF_add (putWin f f' k n) k (n + m)
 have c2:=valF_add f k (n + m)
 have c3:=valF_add (fun i => putWin f f' k n (k + i)) n m
 have c4:=valF_add (fun i => f (k + i)) n m
 rw [c3] at c1
 rw [c4] at c2
 rw [c1,c2]
 have a1:valF (putWin f f' k n) k = valF f k:=valF_congr (fun i hi => by simp [putWin,hi])
 have a2:valF (fun i => putWin f f' k n (k + i)) n = valF f' n:=valF_congr (fun i hi => by
  unfold putWin
  rw [if_neg (by omega),if_pos (by omega),Nat.add_sub_cancel_left])
 have a3:valF (fun i => putWin f f' k n (k + (n + i))) m = valF (fun i => f (k + (n + i))) m:=valF_congr (fun i hi => by
  unfold putWin
  rw [if_neg (by omega),if_neg (by omega)])
 rw [a1,a2,a3,Nat.mul_add,Nat.mul_add]
 omega

theorem putWin_ok {f f':Nat → Nat} {k n N:Nat} (h:∀ i,i < N → f i < 4294967296) (h':∀ i,i < n → f' i < 4294967296):∀ i,i < N → putWin f f' k n i < 4294967296:=by
 intro i hi
 unfold putWin
 split
 ·exact h i hi
 ·split
  ·exact h' _ (by omega)
  ·exact h i hi

theorem LgR.step {wr w1 w0:World} {bu bq bv ov n1 n2 m:Nat} {vs:List Nat} {A V k:Nat} {f g:Nat → Nat} (h:LgR wr w0 bu bq bv ov n1 n2 m vs A V (k + 1) f g) (hm:m + n2 = n1 + 1) (hk:k < m) (hV:V < 4294967296 ^ n2) (hb1:bq ≠ bu) (hb2:bv ≠ bu) (hb3:bv ≠ bq) (hu:w0.heap.size ≤ bu) (hq:w0.heap.size ≤ bq)
  {q:Nat} {f':Nat → Nat} (hqb:q < 4294967296) (hF:Fn w1 bu k (n2 + 1) f') (hok:∀ i,i < n2 + 1 → f' i < 4294967296) (hval:valF f' (n2 + 1) + q * V = valF (fun i => f (k + i)) (n2 + 1)) (hlt:valF f' (n2 + 1) < V) (u:Upd bu k (k + (n2 + 1)) wr w1) :
  LgR (w1.setCell ⟨bq,0 + k,none⟩ (.int .u32 (q:Nat))) w0 bu bq bv ov n1 n2 m vs A V k (putWin f f' k (n2 + 1)) (fun i => if i = k then q else g i):=by
 have ⟨hw,hz⟩:=h.win hm hk hV
 have uq:Upd bq (0 + k) (0 + k + 1) w1 (w1.setCell ⟨bq,0 + k,none⟩ (.int .u32 (q:Nat))):=(Upd.refl _ _ _ w1).set _ _ (Nat.le_refl _) (by omega)
 have qn1:Fn w1 bq 0 m g:=u.fn h.qn (.inl hb1)
 have eN:n1 + 1 = k + (n2 + 1 + (n1 + 1 - k - (n2 + 1))):=by omega
 have hpv:=putWin_val f f' k (n2 + 1) (n1 + 1 - k - (n2 + 1))
 rw [← eN] at hpv
 have heg:valF (fun i => (fun i => if i = k then q else g i) (k + i)) (m - k) = q + 4294967296 * valF (fun i => g (k + 1 + i)) (m - (k + 1)):=by
  rw [valF_head (fun i => if i = k then q else g i) k m hk]
  simp only [if_true]
  congr 2
  exact valF_congr (fun i _ => by rw [if_neg (by omega)])
 refine ⟨uq.fn (putWin_fn h.fn u hF (by omega)) (.inl hb1.symm),putWin_ok h.ok hok,qn1.set k q hk,?_,?_,?_,uq.cells (u.cells h.vc (.inl hb2)) (.inl hb3),?_⟩
 ·intro i hi
  by_cases e:i = k
  ·simp only [e,if_true]; exact hqb
  ·simp only [e,if_false]; exact h.qk i hi
 ·rw [heg]
  have ht:=h.tot
  rw [Nat.pow_succ] at ht
  exact lg_tot ht hval hpv
 ·have e1:=valF_add (putWin f f' k (n2 + 1)) k (n2 + 1 + (n1 + 1 - k - (n2 + 1)))
  have e2:=valF_add (fun i => putWin f f' k (n2 + 1) (k + i)) (n2 + 1) (n1 + 1 - k - (n2 + 1))
  have a2:valF (fun i => putWin f f' k (n2 + 1) (k + i)) (n2 + 1) = valF f' (n2 + 1):=valF_congr (fun i hi => by
   unfold putWin
   rw [if_neg (by omega),if_pos (by omega),Nat.add_sub_cancel_left])
  have a3:valF (fun i => putWin f f' k (n2 + 1) (k + (n2 + 1 + i))) (n1 + 1 - k - (n2 + 1)) = 0:=by
   rw [← hz]
   exact valF_congr (fun i hi => by
    unfold putWin
    rw [if_neg (by omega),if_neg (by omega)])
  have a1:valF (putWin f f' k (n2 + 1)) k < 4294967296 ^ k:=valF_lt (fun i hi => putWin_ok h.ok hok i (by omega))
  rw [a2,a3,Nat.mul_zero,Nat.add_zero] at e2
  rw [← eN,e2] at e1
  rw [e1,Nat.mul_comm V]
  exact low_lt a1 hlt
 ·exact h.bel.trans ((u.below hu h.bel.size).trans (uq.below hq (Nat.le_trans h.bel.size u.size)))

theorem LgR.drewN {wr w0:World} {bu bq bv ov n1 n2 m:Nat} {vs:List Nat} {A V k:Nat} {f g:Nat → Nat} (h:LgR wr w0 bu bq bv ov n1 n2 m vs A V k f g) (j:Nat):LgR (wr.drewN j) w0 bu bq bv ov n1 n2 m vs A V k f g:=⟨h.fn,h.ok,h.qn,h.qk,h.tot,h.lt,h.vc,bel_drewN h.bel j⟩
end Go.Proofs.YtlolnaegfponeaaGreatDoor
