/- Wr9 -/
import Derived.Test.YtmnlhnmlgncedaaGreatDoorRd2
import Derived.Test.YtmnlhnmlgncedaaGreatDoorDv4
import Derived.Test.YtmnlhnmlgncedaaGreatDoorPa2
import Derived.Test.YtmnlhnmlgncedaaGreatDoorRd3
namespace Go.Proofs.YtmnlhnmlgncedaaGreatDoor
open Go.RowKit Go.Deep
set_option linter.unusedVariables false
theorem limbs_of {xs:List Nat} (ox:Ok xs) (nx:Norm xs):limbs (val xs) = xs:=limbs_val ox nx
theorem limbs_mono {a b:Nat} (h:a ≤ b):(limbs a).length ≤ (limbs b).length:=limbs_len (Nat.lt_of_le_of_lt h (limbs_lt b))
theorem Fn.chgW {S:Nat → Prop} {w w':World} {b off n:Nat} {f:Nat → Nat} (h:Fn w b off n f) (k:Chg S w w') (hs:¬ S b):Fn w' b off n f:=by
 intro i hi
 have:=h i hi
 have hlt:=World.block_lt_of_cell? _ _ this.1
 exact ⟨k.cell hs this.1,by rw [World.frozen?_of_block (w:=w) (k.block b hlt hs)]; exact this.2⟩

def DvW (w w':World) (q r:Nat) (e:Ending):Prop :=
 ∃ aq mq cq ar mr cr,e = .returned (.tuple #[.slice aq mq cq,.slice ar mr cr]) ∧ (Sl w' aq mq cq (limbs q) ∧ NewAt w.heap.size aq ∧ (aq = none → cq = 0)) ∧ (Sl w' ar mr cr (limbs r) ∧ NewAt w.heap.size ar ∧ (ar = none → cr = 0)) ∧ Below w.heap.size w w'

structure DwR (wr w:World) (nq A D k:Nat) (f:Nat → Nat) (a:Option Addr) (m c R:Nat):Prop where
 q:Fn wr w.heap.size 0 nq f
 qok:∀ j,j < nq → f j < 4294967296
 qv:valF f nq = A / 2 ^ k / D * 2 ^ k
 r:Ow wr (w.heap.size + 1) a m c (limbs R)
 bel:Below w.heap.size w wr

theorem DwR.less {wr w wd:World} {nq A D i:Nat} {f:Nat → Nat} {a a':Option Addr} {m c m' c' R T:Nat} (h:DwR wr w nq A D (i + 1) f a m c R) (hc:Chg (fun k => AtB a k) wr wd) (hO:Ow wd (w.heap.size + 1) a' m' c' (limbs T)) (hT:T = 2 * (A / 2 ^ (i + 1) % D) + bitN A i) (hD:0 < D) (hlt:T < D) (j:Nat) :
  DwR (wd.drewN j) w nq A D i f a' m' c' T:=by
 have e:=dm_less hD hT hlt
 have hne:¬ AtB a w.heap.size:=fun hk => by have:=(h.r.lt hk).1; omega
 refine ⟨h.q.chgW (hc.trans (Chg.of_drewN _ j)) hne,h.qok,by rw [h.qv,e.2],hO.below (bel_drewN (Below.refl _ _) j),bel_drewN (h.bel.trans (hc.below h.bel.size (fun k hk hh => by have:=(h.r.lt hh).1; omega))) j⟩

theorem DwR.more {wr w wd w6:World} {nq A D i:Nat} {f:Nat → Nat} {a a':Option Addr} {m c m' c' R T m6:Nat} (h:DwR wr w nq A D (i + 1) f a m c R) (hc:Chg (fun k => AtB a k) wr wd) (hO:Ow wd (w.heap.size + 1) a' m' c' (limbs T)) (hT:T = 2 * (A / 2 ^ (i + 1) % D) + bitN A i) (hD:0 < D) (hge:D ≤ T) (j:Nat)
  (hO6:Ow w6 (w.heap.size + 1) a' m6 c' (limbs (T - D))) (hc6:Chg (fun k => AtB a' k) (wd.drewN j) w6) {l s:Nat} (hi:i = 32 * l + s) (hs:s < 32) (hl:l < nq) (h0:f l % 2 ^ (s + 1) = 0) :
  DwR (w6.setCell ⟨w.heap.size,l,none⟩ (.int .u32 (f l + 2 ^ s:Nat))) w nq A D i (fun j => if j = l then f l + 2 ^ s else f j) a' m6 c' (T - D):=by
 have e:=dm_more (V:=A) (D:=D) (i:=i) (r:=T - D) hD (by omega)
 have hne:¬ AtB a w.heap.size:=fun hk => by have:=(h.r.lt hk).1; omega
 have hne':¬ AtB a' w.heap.size:=fun hk => by have:=(hO.lt hk).1; omega
 have k6:Chg (fun k => AtB a' k) wd w6:=(Chg.of_drewN (S:=fun k => AtB a' k) wd j).trans hc6
 have hb1:Below w.heap.size w wd:=h.bel.trans (hc.below h.bel.size (fun k hk hh => by have:=(h.r.lt hh).1; omega))
 have hb2:Below w.heap.size w w6:=hb1.trans (k6.below hb1.size (fun k hk hh => by have:=(hO.lt hh).1; omega))
 have hq:=((h.q.chgW hc hne).chgW k6 hne').set l (f l + 2 ^ s) hl
 rw [Nat.zero_add] at hq
 have hx:=(or_bit (h.qok l hl) hs h0).2
 refine ⟨hq,?_,?_,hO6.chg (.of_set (S:=fun k => k = w.heap.size) _ _ _ _ rfl) (fun k hk hh => by subst hh; exact hne' hk),hb2.setCell (Nat.le_refl _) _⟩
 ·intro j hj
  by_cases k:j = l
  ·simp only [k,if_true]; exact hx
  ·simp only [k,if_false]; exact h.qok j hj
 ·rw [valF_put hl,h.qv,e.2,pow_limb,← Nat.pow_add,← hi]

set_option maxRecDepth 100000 in
set_option maxHeartbeats 16000000 in
theorem wdiv_long (a1 a2:Option Addr) (n1 c1 n2 c2:Nat) (xs ys:List Nat) (w:World) (h1:Sl w a1 n1 c1 xs) (h2:Sl w a2 n2 c2 ys) (ox:Ok xs) (oy:Ok ys) (nx:Norm xs) (ny:Norm ys) (hy:ys ≠ []) (hb1:n1 ≤ 1000000000) (hb2:n2 ≤ 100000000) (hn2:n2 ≠ 1) (hle:bitsN ys ≤ bitsN xs) :
  Calls Tryz.prog 160 #[.slice a1 n1 c1,.slice a2 n2 c2] w fun e w' => DvW w w' (val xs / val ys) (val xs % val ys) e:=by
 have HL2:=Hj h2.len
 have KB1:=Hj (wbits_any a1 n1 c1 xs w h1 ox hb1)
 have KB2:=Hj (wbits_any a2 n2 c2 ys w h2 oy (by omega))
 have T2:=bits_top oy ny hy h2.len
 have hD:0 < val ys:=Nat.pos_of_ne_zero (val_ne ny hy)
 have hxlt:=val_lt_bits ox
 have hxb:bitsN xs ≤ 32 * n1:=by
  by_cases h:xs = []
  ·simp [bitsN,h]
  ·exact (bits_top ox nx h h1.len).1
 obtain ⟨N,hN⟩:∃ N,bitsN xs = N + bitsN ys:=⟨bitsN xs - bitsN ys,by omega⟩
 have HSt:=Hj (dm_start (V:=val xs) (D:=val ys) (s:=N) T2.2.2 T2.2.1 hxlt hN)
 have HDB:=Hj (show val ys < 4294967296 ^ n2 by have:=val_lt oy; rwa [h2.len] at this)
 have t1:((n2:Int) == 1) = false:=by simp; omega
 have t2:¬ (n2:Int) = 1:=by omega
 have t3:¬ ((bitsN xs:Nat):Int) - ((bitsN ys:Nat):Int) < 0:=by omega
 have t4:((bitsN xs:Nat):Int) - ((bitsN ys:Nat):Int) = (N:Int):=by omega
 have hNb:N ≤ 100000000000:=by omega
 obtain ⟨L,hL32⟩:∃ L,N / 32 = L:=⟨_,rfl⟩
 have hmk:=fun w => make_len1 L (by omega) w
 have t5:(N:Int).tdiv 32 = (L:Int):=by rw [Int.tdiv_eq_ediv_of_nonneg (by omega)]; omega
 have t55:(N:Int) / 32 = (L:Int):=by omega
 have HL32:=Hj hL32
 clear hL32
 have HX:=Hj h1
 have HY:=Hj h2
 have NY:=Hj ny
 have hb8:bitsN xs ≤ 100000000000:=by omega
 have hb9:bitsN ys ≤ 100000000000:=by omega
 have HQ:=Hj (show ∀ q,q = val xs / 2 ^ 0 / val ys * 2 ^ 0 → q = val xs / val ys from fun q h => by rw [Nat.pow_zero,Nat.div_one,Nat.mul_one] at h; exact h)
 have HR9:=Hj (show ∀ r,r = val xs / 2 ^ 0 % val ys → r = val xs % val ys from fun q h => by rw [Nat.pow_zero,Nat.div_one] at h; exact h)
 have bel0:=(Below.refl w.heap.size w).alloc (Nat.le_refl _) (.cells (madeCells #[.int .u32 0] (L + 1)) 84)
 have hsz:(w.alloc (.cells (madeCells #[.int .u32 0] (L + 1)) 84)).heap.size = w.heap.size + 1:=by simp
 have KL:=wlow_any a1 n1 c1 xs _ N (h1.below bel0) ox hNb hb1
 have HKL:=Hj KL
 have HFM:=Hj (Fn.made w (L + 1) 84)
 have HB0:=Hj bel0
 have HSZ:=Hj hsz
 clear h1 h2 ny hy hle hxlt hxb T2 KL bel0 hsz
 obtain ⟨bx,hbx⟩:∃ b,bitsN xs = b:=⟨_,rfl⟩
 obtain ⟨bY,hbY⟩:∃ b,bitsN ys = b:=⟨_,rfl⟩
 rw [hbx] at KB1 hN t3 t4 hb8
 rw [hbY] at KB2 hN t3 t4 hb9
 have HNN:=Hj hN
 clear hbx hbY hN
 go_enter Tryz.func160,Tryz.ntmps160
 go_wp2_with fail
 refine (Uh KB1).mono ?_
 rintro e w' ⟨rfl,hw⟩
 obtain rfl:=hw.symm
 clear hw
 go_wp2_with fail
 refine (Uh KB2).mono ?_
 rintro e w' ⟨rfl,hw⟩
 obtain rfl:=hw.symm
 clear hw KB1 KB2
 go_wp2_with fail
 refine (Uh HKL).mono ?_
 rintro e w1 ⟨ar,mr,cr,rfl,hO,hb⟩
 rw [Uh HSZ] at hO
 have hst:DwR w1 w (L + 1) (val xs) (val ys) (N + 1) (fun _ => 0) ar mr cr (val xs / 2 ^ N):=⟨(Uh HFM).below hb,fun _ _ => by decide,by rw [valF_zero,Nat.div_eq_of_lt (Uh HSt),Nat.zero_mul],hO,(Uh HB0).trans (hb.mono (Uh HB0).size)⟩
 have HST:=Hj hst
 clear hst hO hb HKL HFM HB0 HSZ t3 t4 hb8 hb9 hmk t5 t55
 go_wp2_with fail
 go_loopw [10,11] (fun rv iv wr => ∃ k f a m c R,k ≤ N + 1 ∧ iv = .int .i64 ((k:Int) - 1) ∧ rv = .slice a m c ∧ (k = N + 1 → R = val xs / 2 ^ N) ∧ (k ≤ N → R = val xs / 2 ^ k % val ys) ∧ DwR wr w (L + 1) (val xs) (val ys) k f a m c R) (fun _ iv _ => (intOf iv + 1).toNat)
 case atStart => exact ⟨N + 1,_,_,_,_,_,Nat.le_refl _,by congr 1; omega,rfl,fun _ => rfl,fun h => by omega,Uh HST⟩
 case round =>
  clear HST
  obtain ⟨k,f,ar,mr,cr,R,hk,rfl,rfl,hF,hL,hR⟩:=hrel
  rcases k with _ | i
  ·have t0:¬ (0:Int) ≤ ((0:Nat):Int) - 1:=by omega
   have hqv:=Uh HQ _ hR.qv
   have hrv:=Uh HR9 R (hL (Nat.zero_le _))
   have K:=wnorm_sl (some ⟨w.heap.size,0,none⟩) (L + 1) (L + 1) _ wr (hR.q.sl (Nat.le_refl _) (by have:=Uh HL32; unfold maxLen; omega)) (by intro e; cases e) (lst_ok hR.qok)
   rw [lst_val,hqv] at K
   have HK:=Hj K
   have HR:=Hj hR
   have HRV:=Hj hrv
   clear K hR hqv hrv hF hL
   go_wp2_with fail
   refine (Uh HK).mono ?_
   rintro e w' ⟨mq,rfl,hm,hO,hw⟩
   obtain rfl:=hw.symm
   have HO:=Hj hO
   clear hO hw HK
   go_wp2_with fail
   go_ret2
   have hr:=(Uh HR).r
   rw [Uh HRV] at hr
   exact ⟨_,_,_,_,_,_,rfl,⟨Uh HO,fun x hx => by cases hx; exact Nat.le_refl _,by intro e; cases e⟩,⟨hr.sl,fun x hx => Nat.le_of_succ_le (hr.new x hx),hr.nilc⟩,(Uh HR).bel⟩
  ·have t0:((i + 1:Nat):Int) - 1 = (i:Int):=by omega
   rw [t0]
   have t4:(0:Int) ≤ (i:Int):=by omega
   by_cases hi:i = N
   ·have t6:¬ (i:Int) < (N:Int):=by omega
    have hTe:R = 2 * (val xs / 2 ^ (i + 1) % val ys) + bitN (val xs) i:=by
     rw [hF (by omega),hi,Nat.mod_eq_of_lt (Uh HSt)]
     unfold bitN
     rw [Nat.pow_succ,← Nat.div_div_eq_div_mul]
     omega
    have hcd:Chg (fun k => AtB ar k) wr wr:=Chg.refl _ _
    have hOT:Ow wr (w.heap.size + 1) ar mr cr (limbs R):=hR.r
    clear hF hL hi
    have hm2:mr ≤ n2 + 1:=by
     have h1:=hOT.len
     have h2:=limbs_len (v:=R) (j:=n2 + 1) (by
      have:=Uh HDB
      rw [Nat.pow_succ]
      have h3:=Nat.mod_lt (val xs / 2 ^ (i + 1)) hD
      have h4:=bitN_lt (val xs) i
      omega)
     omega
    have hbel:Below w.heap.size w wr:=hR.bel.trans (hcd.below hR.bel.size (fun k hk h => by have:=(hR.r.lt h).1; omega))
    have hY:=(Uh HY).below hbel
    have KC:=wcmp_any ar _ mr cr n2 c2 (limbs R) ys wr hOT.sl hY (limbs_ok R) oy (limbs_norm R) (Uh NY) (by omega) (by omega)
    rw [limbs_v] at KC
    by_cases hlt:R < val ys
    ·rw [cmpN_lt hlt] at KC
     have HK:=Hj KC
     have HN:=Hj (fun j => hR.less hcd hOT hTe hD hlt j)
     have HTM:=Hj (dm_less hD hTe hlt).1.symm
     clear KC hR hcd hOT hY hbel hlt hTe
     go_wp2_with fail
     refine (Uh HK).mono ?_
     rintro e w' ⟨rfl,j,hw⟩
     have hN:=Uh HN j
     rw [← hw] at hN
     have HN2:=Hj hN
     clear hN hw HN HK
     go_wp2_with fail
     exact ⟨⟨i,_,_,_,_,R,by omega,rfl,rfl,fun h => by omega,fun _ => Uh HTM,Uh HN2⟩,by simp [intOf]⟩
    ·have hcg:(0:Int) ≤ cmpN R (val ys):=by unfold cmpN; rw [if_neg hlt]; split <;> omega
     have HKT:=Hj (fun j => wtake_any ar (w.heap.size + 1) mr cr _ n2 c2 (limbs R) ys (wr.drewN j) (hOT.below (bel_drewN (Below.refl _ _) j)) (hY.below (bel_drewN (Below.refl _ _) j)) (limbs_ok R) oy (by omega) (by
       have h1:=hOT.len
       have h2:=limbs_mono (show val ys ≤ R by omega)
       rw [limbs_val oy (Uh NY),Uh HL2] at h2
       omega) (by rw [limbs_v]; omega) (fun x hx hy h => by
       have:=(hOT.lt h).1
       have:=(Uh HY).block_lt hy x hx
       omega))
     have HK:=Hj KC
     obtain ⟨l,hl⟩:∃ l,i / 32 = l:=⟨_,rfl⟩
     obtain ⟨sh,hsh⟩:∃ sh,i % 32 = sh:=⟨_,rfl⟩
     have hs32:sh < 32:=by omega
     have hln:l < L + 1:=by have:=Uh HL32; omega
     have h0:=limb_low hR.qok hln hs32 (M:=val xs / 2 ^ (i + 1) / val ys) (by rw [hR.qv]; congr 2; omega)
     have hxq:=hR.qok l hln
     have ho:=or_bit hxq hs32 h0
     have HM:=Hj (fun j w6 m6 hO6 hc6 => hR.more (w6:=w6) (m6:=m6) hcd hOT hTe hD (by omega) j hO6 hc6 (l:=l) (s:=sh) (by omega) hs32 hln h0)
     have HFQ:=Hj (fun j w6 (hc6:Chg (fun k => AtB ar k) (wr.drewN j) w6) => (hR.q.chgW hcd (fun h => by have:=(hR.r.lt h).1; omega)).chgW ((Chg.of_drewN (S:=fun k => AtB ar k) wr j).trans hc6) (fun h => by have:=(hOT.lt h).1; omega) l hln)
     have t5:(i:Int).tdiv 32 = (l:Int):=by rw [Int.tdiv_eq_ediv_of_nonneg (by omega)]; omega
     have t6:(i:Int).tmod 32 = (sh:Int):=by rw [Int.tmod_eq_emod_of_nonneg (by omega)]; omega
     have t7:(l:Int) < (L:Int) + 1:=by omega
     have HTM2:=Hj (dm_more (V:=val xs) (D:=val ys) (i:=i) (r:=R - val ys) hD (by omega)).1
     clear KC hR hcd hOT hY hbel hTe h0
     generalize cmpN R (val ys) = cc at *
     go_wp2_with fail
     refine (Uh HK).mono ?_
     rintro e w' ⟨rfl,j,hw⟩
     have KT:=Uh HKT j
     rw [← hw] at KT
     have HKT2:=Hj KT
     have HW:=Hj hw
     clear KT HKT HK hw
     go_wp2_with fail
     refine (Uh HKT2).mono ?_
     rintro e w6 ⟨m6,rfl,hm6,hO6,hc6⟩
     rw [Uh HW] at hc6
     rw [limbs_v] at hO6
     have hM:=Uh HM j w6 m6 hO6 hc6
     obtain ⟨q1,q2⟩:=Uh HFQ j w6 hc6
     rw [Nat.zero_add] at q1 q2
     have HM2:=Hj hM
     clear hM HM HFQ HW HKT2 hO6 hc6
     generalize f l = x at *
     have e8:(2:Int) ^ sh % 4294967296 = ((2 ^ sh:Nat):Int):=by
      have h9:2 ^ sh < 4294967296:=by have:=Nat.pow_lt_pow_right (a:=2) (by decide) hs32; omega
      have h8:((2:Int) ^ sh) = ((2 ^ sh:Nat):Int):=by rw [Int.natCast_pow]; rfl
      rw [h8]
      clear h8
      generalize (2:Nat) ^ sh = p at h9 ⊢
      omega
     have HE8:=Hj e8
     clear e8
     go_wp2_with fail
     rw [Uh HE8,ho.1]
     exact ⟨⟨i,_,_,_,_,R - val ys,by omega,rfl,rfl,fun h => by omega,fun _ => (Uh HTM2).symm,Uh HM2⟩,by show ((i:Int) - 1 + 1).toNat < ((i:Int) + 1).toNat; omega⟩
   ·have t6:(i:Int) < (N:Int):=by omega
    have hRe:=hL (by omega)
    have hbb:=bitN_lt (val xs) i
    have KI:=wbit_any a1 n1 c1 xs wr i ((Uh HX).below hR.bel) ox hb1 (by omega)
    obtain ⟨bt,hbt⟩:∃ b,bitN (val xs) i = b:=⟨_,rfl⟩
    rw [hbt] at KI hbb
    have HKI:=Hj KI
    have hlt1:w.heap.size < wr.heap.size:=World.block_lt_of_cell? _ _ (hR.q 0 (by omega)).1
    have hmr:mr ≤ n2:=by
     rw [← hR.r.len]
     refine limbs_len ?_
     have h3:=Nat.mod_lt (val xs / 2 ^ (i + 1)) hD
     have:=Uh HDB
     omega
    have HKD:=Hj (wdouble_any ar (w.heap.size + 1) mr cr R bt wr hR.r (by omega) (by omega) (by omega))
    have HR:=Hj hR
    have HTE:=Hj (show 2 * R + bt = 2 * (val xs / 2 ^ (i + 1) % val ys) + bitN (val xs) i by rw [hRe,hbt])
    clear KI hF hL hRe hbt hR
    go_wp2_with fail
    refine (Uh HKI).mono ?_
    rintro e w' ⟨rfl,hw⟩
    obtain rfl:=hw.symm
    clear hw HKI
    go_wp2_with fail
    refine (Uh HKD).mono ?_
    rintro e wd ⟨aT,mT,cT,rfl,hOT,hfrom,hcd⟩
    have hR:=Uh HR
    have hTe:=Uh HTE
    clear HR HTE HKD hfrom
    obtain ⟨T,hT⟩:∃ T,2 * R + bt = T:=⟨_,rfl⟩
    rw [hT] at hOT hTe
    clear hT
    have hm2:mT ≤ n2 + 1:=by
     have h1:=hOT.len
     have h2:=limbs_len (v:=T) (j:=n2 + 1) (by
      have:=Uh HDB
      rw [Nat.pow_succ]
      have h3:=Nat.mod_lt (val xs / 2 ^ (i + 1)) hD
      have h4:=bitN_lt (val xs) i
      omega)
     omega
    have hbel:Below w.heap.size w wd:=hR.bel.trans (hcd.below hR.bel.size (fun k hk h => by have:=(hR.r.lt h).1; omega))
    have hY:=(Uh HY).below hbel
    have KC:=wcmp_any aT _ mT cT n2 c2 (limbs T) ys wd hOT.sl hY (limbs_ok T) oy (limbs_norm T) (Uh NY) (by omega) (by omega)
    rw [limbs_v] at KC
    by_cases hlt:T < val ys
    ·rw [cmpN_lt hlt] at KC
     have HK:=Hj KC
     have HN:=Hj (fun j => hR.less hcd hOT hTe hD hlt j)
     have HTM:=Hj (dm_less hD hTe hlt).1.symm
     clear KC hR hcd hOT hY hbel hlt hTe
     go_wp2_with fail
     refine (Uh HK).mono ?_
     rintro e w' ⟨rfl,j,hw⟩
     have hN:=Uh HN j
     rw [← hw] at hN
     have HN2:=Hj hN
     clear hN hw HN HK
     go_wp2_with fail
     exact ⟨⟨i,_,_,_,_,T,by omega,rfl,rfl,fun h => by omega,fun _ => Uh HTM,Uh HN2⟩,by simp [intOf]⟩
    ·have hcg:(0:Int) ≤ cmpN T (val ys):=by unfold cmpN; rw [if_neg hlt]; split <;> omega
     have HKT:=Hj (fun j => wtake_any aT (w.heap.size + 1) mT cT _ n2 c2 (limbs T) ys (wd.drewN j) (hOT.below (bel_drewN (Below.refl _ _) j)) (hY.below (bel_drewN (Below.refl _ _) j)) (limbs_ok T) oy (by omega) (by
       have h1:=hOT.len
       have h2:=limbs_mono (show val ys ≤ T by omega)
       rw [limbs_val oy (Uh NY),Uh HL2] at h2
       omega) (by rw [limbs_v]; omega) (fun x hx hy h => by
       have:=(hOT.lt h).1
       have:=(Uh HY).block_lt hy x hx
       omega))
     have HK:=Hj KC
     obtain ⟨l,hl⟩:∃ l,i / 32 = l:=⟨_,rfl⟩
     obtain ⟨sh,hsh⟩:∃ sh,i % 32 = sh:=⟨_,rfl⟩
     have hs32:sh < 32:=by omega
     have hln:l < L + 1:=by have:=Uh HL32; omega
     have h0:=limb_low hR.qok hln hs32 (M:=val xs / 2 ^ (i + 1) / val ys) (by rw [hR.qv]; congr 2; omega)
     have hxq:=hR.qok l hln
     have ho:=or_bit hxq hs32 h0
     have HM:=Hj (fun j w6 m6 hO6 hc6 => hR.more (w6:=w6) (m6:=m6) hcd hOT hTe hD (by omega) j hO6 hc6 (l:=l) (s:=sh) (by omega) hs32 hln h0)
     have HFQ:=Hj (fun j w6 (hc6:Chg (fun k => AtB aT k) (wd.drewN j) w6) => (hR.q.chgW hcd (fun h => by have:=(hR.r.lt h).1; omega)).chgW ((Chg.of_drewN (S:=fun k => AtB aT k) wd j).trans hc6) (fun h => by have:=(hOT.lt h).1; omega) l hln)
     have t5:(i:Int).tdiv 32 = (l:Int):=by rw [Int.tdiv_eq_ediv_of_nonneg (by omega)]; omega
     have t6:(i:Int).tmod 32 = (sh:Int):=by rw [Int.tmod_eq_emod_of_nonneg (by omega)]; omega
     have t7:(l:Int) < (L:Int) + 1:=by omega
     have HTM2:=Hj (dm_more (V:=val xs) (D:=val ys) (i:=i) (r:=T - val ys) hD (by omega)).1
     clear KC hR hcd hOT hY hbel hTe h0
     generalize cmpN T (val ys) = cc at *
     go_wp2_with fail
     refine (Uh HK).mono ?_
     rintro e w' ⟨rfl,j,hw⟩
     have KT:=Uh HKT j
     rw [← hw] at KT
     have HKT2:=Hj KT
     have HW:=Hj hw
     clear KT HKT HK hw
     go_wp2_with fail
     refine (Uh HKT2).mono ?_
     rintro e w6 ⟨m6,rfl,hm6,hO6,hc6⟩
     rw [Uh HW] at hc6
     rw [limbs_v] at hO6
     have hM:=Uh HM j w6 m6 hO6 hc6
     obtain ⟨q1,q2⟩:=Uh HFQ j w6 hc6
     rw [Nat.zero_add] at q1 q2
     have HM2:=Hj hM
     clear hM HM HFQ HW HKT2 hO6 hc6
     generalize f l = x at *
     have e8:(2:Int) ^ sh % 4294967296 = ((2 ^ sh:Nat):Int):=by
      have h9:2 ^ sh < 4294967296:=by have:=Nat.pow_lt_pow_right (a:=2) (by decide) hs32; omega
      have h8:((2:Int) ^ sh) = ((2 ^ sh:Nat):Int):=by rw [Int.natCast_pow]; rfl
      rw [h8]
      clear h8
      generalize (2:Nat) ^ sh = p at h9 ⊢
      omega
     have HE8:=Hj e8
     clear e8
     go_wp2_with fail
     rw [Uh HE8,ho.1]
     exact ⟨⟨i,_,_,_,_,T - val ys,by omega,rfl,rfl,fun h => by omega,fun _ => (Uh HTM2).symm,Uh HM2⟩,by show ((i:Int) - 1 + 1).toNat < ((i:Int) + 1).toNat; omega⟩

set_option maxHeartbeats 2000000 in
theorem wdiv_less (a1 a2:Option Addr) (n1 c1 n2 c2:Nat) (xs ys:List Nat) (w:World) (h1:Sl w a1 n1 c1 xs) (hnil:a1 = none → c1 = 0) (h2:Sl w a2 n2 c2 ys) (ox:Ok xs) (oy:Ok ys) (nx:Norm xs) (ny:Norm ys) (hy:ys ≠ []) (hb1:n1 ≤ 1000000000) (hb2:n2 ≤ 100000000) (hn2:n2 ≠ 1) (hlt:bitsN xs < bitsN ys) :
  Calls Tryz.prog 160 #[.slice a1 n1 c1,.slice a2 n2 c2] w fun e w' => DvW w w' (val xs / val ys) (val xs % val ys) e:=by
 have KB1:=Hj (wbits_any a1 n1 c1 xs w h1 ox hb1)
 have KB2:=Hj (wbits_any a2 n2 c2 ys w h2 oy (by omega))
 have hv:=bits_less ox oy ny hy hlt
 rw [Nat.div_eq_of_lt hv,Nat.mod_eq_of_lt hv]
 have HLx:=Hj (limbs_of ox nx)
 obtain ⟨V,hV⟩:∃ V,val xs = V:=⟨_,rfl⟩
 rw [hV] at HLx ⊢
 clear hV
 have T2:=bits_top oy ny hy h2.len
 have t1:((n2:Int) == 1) = false:=by simp; omega
 have t2:¬ (n2:Int) = 1:=by omega
 have t3:((bitsN xs:Nat):Int) - ((bitsN ys:Nat):Int) < 0:=by omega
 have hb9:bitsN ys ≤ 100000000000:=by omega
 have HK:=Hj (wcopied_any a1 n1 c1 xs w h1 hnil hb1)
 clear h1 h2 hy hlt hv T2 ny nx ox oy hnil
 generalize bitsN xs = bx at *
 generalize bitsN ys = bY at *
 go_enter Tryz.func160,Tryz.ntmps160
 go_wp2_with fail
 refine (Uh KB1).mono ?_
 rintro e w' ⟨rfl,hw⟩
 obtain rfl:=hw.symm
 clear hw
 go_wp2_with fail
 refine (Uh KB2).mono ?_
 rintro e w' ⟨rfl,hw⟩
 obtain rfl:=hw.symm
 clear hw KB1 KB2
 go_wp2_with fail
 refine (Uh HK).mono ?_
 rintro e w1 ⟨a',c',rfl,hO,hb⟩
 have HX:=Hj (And.intro hO hb)
 clear hO hb HK
 go_wp2_with fail
 go_ret2
 exact ⟨_,_,_,_,_,_,rfl,⟨sl_nil _,newAt_nil _,fun _ => rfl⟩,⟨by rw [Uh HLx]; exact (Uh HX).1.sl,(Uh HX).1.new,(Uh HX).1.nilc⟩,(Uh HX).2⟩

theorem one_sl (w:World) (x:Nat) (e:TypeId):Sl (w.alloc (.cells #[.int .u32 (x:Nat)] e)) (some ⟨w.heap.size,0,none⟩) 1 1 [x]:=by
 refine ⟨rfl,Nat.le_refl _,by unfold maxLen; omega,.inr ⟨_,_,rfl,?_⟩⟩
 intro i hi
 have:i = 0:=by simpa using hi
 subst this
 simp

set_option maxHeartbeats 2000000 in
theorem wdiv_short (a1 a2:Option Addr) (n1 c1 c2 d:Nat) (xs:List Nat) (w:World) (h1:Sl w a1 n1 c1 xs) (h2:Sl w a2 1 c2 [d]) (ox:Ok xs) (hd0:0 < d) (hd:d < 4294967296) (hb1:n1 ≤ 1000000000) :
  Calls Tryz.prog 160 #[.slice a1 n1 c1,.slice a2 1 c2] w fun e w' => DvW w w' (val xs / d) (val xs % d) e:=by
 have HK:=Hj (wshort_any a1 n1 c1 d xs w h1 ox hb1 hd0 hd)
 obtain ⟨b,off,rfl,hc⟩:=h2.cells.resolve_left (by simp)
 have g1:=hc 0 (by simp)
 simp only [List.getD_cons_zero,Nat.add_zero] at g1
 have hr:val xs % d < 4294967296:=Nat.lt_trans (Nat.mod_lt _ hd0) hd
 generalize val xs % d = r at *
 clear h1 h2 hc
 go_enter Tryz.func160,Tryz.ntmps160
 go_wp2_with fail
 refine (Uh HK).mono ?_
 rintro e w1 ⟨aq,mq,cq,rfl,hS,hN,hnil,hb⟩
 have K:=wnorm_sl _ 1 1 _ _ (one_sl w1 r 84) (by intro e; cases e) (show Ok [r] from Ok.cons hr Ok.nil)
 rw [show val [r] = r from by simp [val]] at K
 have HK2:=Hj K
 have hb2:=(Below.refl w1.heap.size w1).alloc (Nat.le_refl _) (.cells #[.int .u32 (r:Nat)] 84)
 have HX:=Hj (And.intro (hS.below hb2) (And.intro hN (And.intro hnil (And.intro (hb.trans (hb2.mono hb.size)) hb.size))))
 clear K hS hN hnil hb hb2 HK
 go_wp2_with fail
 refine (Uh HK2).mono ?_
 rintro e w' ⟨m,rfl,hm,hO,hw⟩
 obtain rfl:=hw.symm
 have HO:=Hj hO
 clear hO hw HK2
 go_wp2_with fail
 go_ret2
 obtain ⟨p1,p2,p3,p4,p5⟩:=Uh HX
 exact ⟨_,_,_,_,_,_,rfl,⟨p1,p2,p3⟩,⟨Uh HO,fun x hx => by cases hx; exact p5,by intro e; cases e⟩,p4⟩

theorem wdiv_any (a1 a2:Option Addr) (n1 c1 n2 c2:Nat) (xs ys:List Nat) (w:World) (h1:Sl w a1 n1 c1 xs) (hnil:a1 = none → c1 = 0) (h2:Sl w a2 n2 c2 ys) (ox:Ok xs) (oy:Ok ys) (nx:Norm xs) (ny:Norm ys) (hy:ys ≠ []) (hb1:n1 ≤ 1000000000) (hb2:n2 ≤ 100000000) :
  Calls Tryz.prog 160 #[.slice a1 n1 c1,.slice a2 n2 c2] w fun e w' => DvW w w' (val xs / val ys) (val xs % val ys) e:=by
 by_cases hn2:n2 = 1
 ·subst hn2
  have hl:=h2.len
  match ys,hl,oy,ny with
  | [d],_,oy,ny =>
   have hd:=norm_one ny
   have e:val [d] = d:=by simp [val]
   rw [e]
   exact wdiv_short a1 a2 n1 c1 c2 d xs w h1 h2 ox (by omega) oy.head hb1
 ·by_cases hlt:bitsN xs < bitsN ys
  ·exact wdiv_less a1 a2 n1 c1 n2 c2 xs ys w h1 hnil h2 ox oy nx ny hy hb1 hb2 hn2 hlt
  ·exact wdiv_long a1 a2 n1 c1 n2 c2 xs ys w h1 h2 ox oy nx ny hy hb1 hb2 hn2 (by omega)
end Go.Proofs.YtmnlhnmlgncedaaGreatDoor
