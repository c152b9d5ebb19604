/- Wrc -/
import Derived.Test.YtlolnaegfponeaaGreatDoorWrb
import Derived.Test.YtlolnaegfponeaaGreatDoorRa5
import Derived.Test.YtlolnaegfponeaaGreatDoorGiv2
namespace Go.Proofs.YtlolnaegfponeaaGreatDoor
open Go.RowKit Go.Deep
set_option linter.unusedVariables false
set_option maxHeartbeats 400000 in
theorem wmay_nil (a:Option Addr) (cap:Nat) (w:World) :
  Calls Tryz.prog 167 #[.slice a 0 cap] w fun e w' => e = .returned (.bool true) ∧ w' = w:=by
 go_enter Tryz.func167,Tryz.ntmps167
 go_wp2
 go_ret
 exact ⟨rfl,rfl⟩
set_option maxHeartbeats 400000 in
theorem wmay_long (a:Option Addr) (len cap:Nat) (w:World) (h:2048 < len) (hm:len ≤ maxLen) :
  Calls Tryz.prog 167 #[.slice a len cap] w fun e w' => e = .returned (.bool false) ∧ w' = w:=by
 unfold maxLen at hm
 go_enter Tryz.func167,Tryz.ntmps167
 go_wp2
 go_ret
 exact ⟨rfl,rfl⟩
set_option maxHeartbeats 400000 in
theorem wmay_some (b off:Nat) (n cap:Nat) (x:Int) (w:World) (h:(n:Int) ≤ 2048) (h0:0 < n) (hc:w.cell? ⟨b,off + (n-1),none⟩ = some (.int .u32 x)) :
  Calls Tryz.prog 167 #[.slice (some ⟨b,off,none⟩) n cap] w fun e w' => e = .returned (.bool (x != 0)) ∧ w' = w:=by
 have h1:((n:Int) == 0) = false:=by simp; omega
 have h2:((n:Int) - 1).toNat = n - 1:=by omega
 go_enter Tryz.func167,Tryz.ntmps167
 go_wp2
 go_ret
 exact ⟨rfl,rfl⟩

theorem wmaynat_any (a:Option Addr) (n c:Nat) (xs:List Nat) (w:World) (h:Sl w a n c xs) :
  Calls Tryz.prog 167 #[.slice a n c] w fun e w' => e = .returned (.bool (MayL xs)) ∧ w' = w:=by
 have hl:=h.len
 by_cases hlong:2048 < n
 ·refine (wmay_long a n c w hlong (Nat.le_trans h.le h.cap)).mono ?_
  rintro e w' ⟨rfl,rfl⟩
  have:MayL xs = false:=by simp [MayL]; omega
  rw [this]; exact ⟨rfl,rfl⟩
 ·rcases h.cells with h0 | ⟨b,off,rfl,hc⟩
  ·subst h0
   simp at hl
   subst hl
   refine (wmay_nil a c w).mono ?_
   rintro e w' ⟨rfl,rfl⟩
   exact ⟨rfl,rfl⟩
  ·by_cases hz:n = 0
   ·subst hz
    have:xs = []:=List.eq_nil_of_length_eq_zero hl
    subst this
    refine (wmay_nil _ c w).mono ?_
    rintro e w' ⟨rfl,rfl⟩
    exact ⟨rfl,rfl⟩
   ·have:=hc (n - 1) (by omega)
    refine (wmay_some b off n c _ w (by omega) (by omega) this).mono ?_
    rintro e w' ⟨rfl,rfl⟩
    refine ⟨?_,rfl⟩
    have e1:xs.isEmpty = false:=by cases xs with | nil => simp at hl; omega | cons => rfl
    have e2:MayL xs = (((xs.getD (n - 1) 0:Nat):Int) != 0):=by
     simp only [MayL,hl,e1,Bool.false_or]
     rw [show decide (n ≤ 2048) = true from by simp; omega]
     simp only [Bool.true_and]
     rw [Bool.eq_iff_iff,bne_iff_ne,bne_iff_ne]
     omega
    rw [e2]

theorem limbs_one_iff {G:Nat} {m:Nat} (hl:(limbs G).length = m):(m = 1 ∧ (limbs G).getD 0 0 = 1) ↔ G = 1:=by
 constructor
 ·rintro ⟨h1,h2⟩
  have e:limbs G = [1]:=by
   match hh:limbs G,(by rw [hl,h1]:(limbs G).length = 1) with
   | [x],_ => rw [hh] at h2; simp at h2; rw [h2]
  have:=limbs_v G
  rw [e] at this
  simpa [val] using this.symm
 ·rintro rfl
  have e:limbs 1 = [1]:=rfl
  rw [e] at hl ⊢
  exact ⟨hl.symm,rfl⟩

set_option maxHeartbeats 8000000 in
theorem wmay_any (neg:Bool) (a1 a2:Option Addr) (n1 c1 n2 c2:Nat) (xs ys:List Nat) (w:World) (h1:Sl w a1 n1 c1 xs) (h2:Sl w a2 n2 c2 ys) (ox:Ok xs) (oy:Ok ys) :
  Calls Tryz.prog 109 #[ratV neg a1 n1 c1 a2 n2 c2] w fun e w' => e = .returned (.bool (MayR neg xs ys)) ∧ Below w.heap.size w w':=by
 have bx:=Box.made w neg a1 n1 c1 a2 n2 c2
 obtain ⟨wa,hwa⟩:∃ wa,ratBox w neg a1 n1 c1 a2 n2 c2 = wa:=⟨_,rfl⟩
 rw [hwa] at bx
 unfold ratBox at hwa
 have bel:=bx.bel
 have d0:=bx.d0
 have d1:=bx.d1
 have d2:=bx.d2
 have K1:=wmaynat_any a1 n1 c1 xs wa (h1.below bel)
 have K2:=wmaynat_any a2 n2 c2 ys wa (h2.below bel)
 have hl1:=h1.len
 have hl2:=h2.len
 have HB:=Hd bel
 cases m1:MayL xs
 ·rw [m1] at K1
  have K1':=Hd K1
  have HR:=Hd (show MayR neg xs ys = false from by simp [MayR,m1])
  clear K1 K2 h1 h2 m1 bel bx
  unfold ratV
  go_enter Tryz.func109,Tryz.ntmps109
  go_wp2_with fail
  refine (Uh K1').mono ?_
  rintro _ _ ⟨rfl,hw⟩
  obtain rfl:=hw.symm
  clear hw
  go_wp2_with fail
  go_ret
  rw [Uh HR]
  exact ⟨rfl,Uh HB⟩
 ·rw [m1] at K1
  cases m2:MayL ys
  ·rw [m2] at K2
   have K1':=Hd K1
   have K2':=Hd K2
   have HR:=Hd (show MayR neg xs ys = false from by simp [MayR,m2])
   clear K1 K2 h1 h2 m1 m2 bel bx
   unfold ratV
   go_enter Tryz.func109,Tryz.ntmps109
   go_wp2_with fail
   refine (Uh K1').mono ?_
   rintro _ _ ⟨rfl,hw⟩
   obtain rfl:=hw.symm
   clear hw
   go_wp2_with fail
   refine (Uh K2').mono ?_
   rintro _ _ ⟨rfl,hw⟩
   obtain rfl:=hw.symm
   clear hw
   go_wp2_with fail
   go_ret
   rw [Uh HR]
   exact ⟨rfl,Uh HB⟩
  ·rw [m2] at K2
   have K1':=Hd K1
   have K2':=Hd K2
   by_cases hy:ys = []
   ·have HR:=Hd (show MayR neg xs ys = false from by simp [MayR,hy])
    have hn2:n2 = 0:=by rw [← hl2,hy]; rfl
    subst hn2
    clear K1 K2 h1 h2 m1 m2 bel bx
    unfold ratV
    go_enter Tryz.func109,Tryz.ntmps109
    go_wp2_with fail
    refine (Uh K1').mono ?_
    rintro _ _ ⟨rfl,hw⟩
    obtain rfl:=hw.symm
    clear hw
    go_wp2_with fail
    refine (Uh K2').mono ?_
    rintro _ _ ⟨rfl,hw⟩
    obtain rfl:=hw.symm
    clear hw
    go_wp2_with fail
    go_ret
    rw [Uh HR]
    exact ⟨rfl,Uh HB⟩
   ·have hn2:0 < n2:=by rw [← hl2]; exact List.length_pos_iff.2 hy
    have t1:((n2:Int) == 0) = false:=by simp; omega
    have t2:¬ (n2:Int) = 0:=by omega
    obtain ⟨b2,o2,e2,hc2⟩:=h2.cells.resolve_left hy
    have g2:=(h2.below bel).cells.resolve_left hy
    subst e2
    obtain ⟨b2',o2',e2',g2⟩:=g2
    cases e2'
    have g2:=g2 0 (by omega)
    rw [Nat.add_zero] at g2
    by_cases hx:xs = []
    ·have hn1:n1 = 0:=by rw [← hl1,hx]; rfl
     have hiff:=limbs_one_iff (G:=val ys) (m:=n2) (by rw [limbs_val oy (MayL.norm m2)]; exact hl2)
     rw [limbs_val oy (MayL.norm m2)] at hiff
     have hM0:MayR true xs ys = false:=by simp [MayR,hx]
     have hM1:val ys = 1 → MayR false xs ys = true:=fun e => by
      have e1:Nat.gcd (val xs) (val ys) = 1:=by rw [hx,e]; rfl
      simp [MayR,m1,m2,hy,e1]
     have hM2:val ys ≠ 1 → MayR false xs ys = false:=fun e => by
      have e1:¬ Nat.gcd (val xs) (val ys) = 1:=by rw [hx]; simpa [val] using e
      simp [MayR,e1]
     subst hn1
     have by0:=oy.getD 0
     generalize ys.getD 0 0 = y0 at *
     clear h1 h2 K1 K2 bx bel hc2 hx
     cases neg
     ·by_cases hl:n2 = 1
      ·have t3:((n2:Int) == 1) = true:=by simp; omega
       by_cases h0:y0 = 1
       ·have t4:((y0:Int) == 1) = true:=by simp; omega
        have HR:=Hd (show MayR false xs ys = true from by exact hM1 (hiff.1 ⟨hl,h0⟩))
        clear hM0 hM1 hM2 hiff m1 m2 hl h0
        unfold ratV
        go_enter Tryz.func109,Tryz.ntmps109
        go_wp2_with fail
        refine (Uh K1').mono ?_
        rintro _ _ ⟨rfl,hw⟩
        obtain rfl:=hw.symm
        clear hw
        go_wp2_with fail
        refine (Uh K2').mono ?_
        rintro _ _ ⟨rfl,hw⟩
        obtain rfl:=hw.symm
        clear hw
        go_wp2_with fail
        go_ret
        rw [Uh HR]
        exact ⟨rfl,Uh HB⟩
       ·have t4:((y0:Int) == 1) = false:=by simp; omega
        have HR:=Hd (show MayR false xs ys = false from hM2 (fun e => h0 (hiff.2 e).2))
        clear hM0 hM1 hM2 hiff m1 m2 hl h0
        unfold ratV
        go_enter Tryz.func109,Tryz.ntmps109
        go_wp2_with fail
        refine (Uh K1').mono ?_
        rintro _ _ ⟨rfl,hw⟩
        obtain rfl:=hw.symm
        clear hw
        go_wp2_with fail
        refine (Uh K2').mono ?_
        rintro _ _ ⟨rfl,hw⟩
        obtain rfl:=hw.symm
        clear hw
        go_wp2_with fail
        go_ret
        rw [Uh HR]
        exact ⟨rfl,Uh HB⟩
      ·have t3:((n2:Int) == 1) = false:=by simp; omega
       have HR:=Hd (show MayR false xs ys = false from hM2 (fun e => hl (hiff.2 e).1))
       clear hM0 hM1 hM2 hiff m1 m2 hl
       unfold ratV
       go_enter Tryz.func109,Tryz.ntmps109
       go_wp2_with fail
       refine (Uh K1').mono ?_
       rintro _ _ ⟨rfl,hw⟩
       obtain rfl:=hw.symm
       clear hw
       go_wp2_with fail
       refine (Uh K2').mono ?_
       rintro _ _ ⟨rfl,hw⟩
       obtain rfl:=hw.symm
       clear hw
       go_wp2_with fail
       go_ret
       rw [Uh HR]
       exact ⟨rfl,Uh HB⟩
     ·have HR:=Hd (show MayR true xs ys = false from hM0)
      clear hM0 hM1 hM2 hiff m1 m2
      unfold ratV
      go_enter Tryz.func109,Tryz.ntmps109
      go_wp2_with fail
      refine (Uh K1').mono ?_
      rintro _ _ ⟨rfl,hw⟩
      obtain rfl:=hw.symm
      clear hw
      go_wp2_with fail
      refine (Uh K2').mono ?_
      rintro _ _ ⟨rfl,hw⟩
      obtain rfl:=hw.symm
      clear hw
      go_wp2_with fail
      go_ret
      rw [Uh HR]
      exact ⟨rfl,Uh HB⟩
    ·have hn1:0 < n1:=by rw [← hl1]; exact List.length_pos_iff.2 hx
     have t5:((n1:Int) == 0) = false:=by simp; omega
     have hb1:n1 ≤ 10000000:=by have:=MayL.len m1; omega
     have hb2:n2 ≤ 10000000:=by have:=MayL.len m2; omega
     have K:=wgcd_any a1 _ n1 c1 n2 c2 xs ys wa (h1.below bel) (h2.below bel) ox oy (MayL.norm m1) (MayL.norm m2) hx hy hb1 hb2
     obtain ⟨G,hG⟩:∃ G,Nat.gcd (val xs) (val ys) = G:=⟨_,rfl⟩
     have hM1:G = 1 → MayR neg xs ys = true:=fun e => by
      have e1:Nat.gcd (val xs) (val ys) = 1:=hG.trans e
      simp [MayR,m1,m2,hy,hx,e1]
     have hM2:G ≠ 1 → MayR neg xs ys = false:=fun e => by
      have e1:¬ Nat.gcd (val xs) (val ys) = 1:=fun h => e (hG.symm.trans h)
      simp [MayR,e1]
     rw [hG] at K
     have HG:=Hd (show 0 < G by rw [← hG]; exact Nat.gcd_pos_of_pos_left _ (Nat.pos_of_ne_zero (val_ne (MayL.norm m1) hx)))
     have HK:=Hd K
     have HM:=Hd (And.intro hM1 hM2)
     clear K hM1 hM2 hG h1 h2 K1 K2 bx bel hc2 hx hy m1 m2
     unfold ratV
     go_enter Tryz.func109,Tryz.ntmps109
     go_wp2_with fail
     refine (Uh K1').mono ?_
     rintro _ _ ⟨rfl,hw⟩
     obtain rfl:=hw.symm
     clear hw
     go_wp2_with fail
     refine (Uh K2').mono ?_
     rintro _ _ ⟨rfl,hw⟩
     obtain rfl:=hw.symm
     clear hw
     go_wp2_with fail
     refine (Uh HK).mono ?_
     rintro _ w1 ⟨a3,m3,c3,rfl,s3,n3,hnl,b3⟩
     have hm3:0 < m3:=by
      rw [← s3.len]
      refine List.length_pos_iff.2 (fun e => ?_)
      have:=limbs_eq_nil.1 e
      have:=Uh HG
      omega
     obtain ⟨b4,o4,rfl,hc4⟩:=s3.cells.resolve_left (fun e => by have:=s3.len; rw [e] at this; simp at this; omega)
     have g4:=hc4 0 (by rw [s3.len]; exact hm3)
     rw [Nat.add_zero] at g4
     have hiff:=limbs_one_iff (G:=G) s3.len
     have bg0:=(limbs_ok G).getD 0
     have HB1:=Hd ((Uh HB).trans (b3.mono (Uh HB).size))
     generalize (limbs G).getD 0 0 = y0 at *
     clear s3 n3 hnl b3 hc4 HK
     by_cases hl:m3 = 1
     ·have t6:((m3:Int) == 1) = true:=by simp; omega
      by_cases h0:y0 = 1
      ·have t7:((y0:Int) == 1) = true:=by simp; omega
       have HR:=Hd (show MayR neg xs ys = true from (Uh HM).1 (hiff.1 ⟨hl,h0⟩))
       clear hl h0 hiff
       go_wp2_with fail
       go_ret
       rw [Uh HR]
       exact ⟨rfl,Uh HB1⟩
      ·have t7:((y0:Int) == 1) = false:=by simp; omega
       have HR:=Hd (show MayR neg xs ys = false from (Uh HM).2 (fun e => h0 (hiff.2 e).2))
       clear hl h0 hiff
       go_wp2_with fail
       go_ret
       rw [Uh HR]
       exact ⟨rfl,Uh HB1⟩
     ·have t6:((m3:Int) == 1) = false:=by simp; omega
      have HR:=Hd (show MayR neg xs ys = false from (Uh HM).2 (fun e => hl (hiff.2 e).1))
      clear hl hiff
      go_wp2_with fail
      go_ret
      rw [Uh HR]
      exact ⟨rfl,Uh HB1⟩
theorem newR_of {w wk wf:World} {R:Nat} {aN aD:Option Addr} {mN cN mD cD:Nat} {xs ys:List Nat} (hR:w.heap.size ≤ R) (hRk:R < wk.heap.size) (bel:Below w.heap.size w wk) (sN:Sl wk aN mN cN xs) (nN:NewAt (R + 1) aN) (sD:Sl wk aD mD cD ys) (nD:NewAt (R + 1) aD) (c4:Chg (fun j => j = R) wk wf) (g:Bool) :
  NewR w wf g xs ys (ratV g aN mN cN aD mD cD) :=
 ⟨aN,mN,cN,aD,mD,cD,rfl,sN.chg c4 (fun x hx _ h => by have:=nN x hx; omega),sD.chg c4 (fun x hx _ h => by have:=nD x hx; omega),fun x hx => by have:=nN x hx; omega,fun x hx => by have:=nD x hx; omega,bel.trans (c4.below bel.size (fun k hk => by omega))⟩

set_option maxHeartbeats 1000000 in
theorem wzero_any (w:World):Calls Tryz.prog 104 #[] w fun e w' => ∃ v,e = .returned v ∧ NewR w w' false [] [1] v:=by
 obtain ⟨wb,hwb⟩:∃ wb,w.alloc (.cells #[.bool false,.slice none 0 0,.slice none 0 0] 25) = wb:=⟨_,rfl⟩
 have hbb:Below w.heap.size w wb:=by rw [← hwb]; exact bAl
 have hO:Out wb w.heap.size:=by rw [← hwb]; exact Out.made w
 have hz:wb.heap.size = w.heap.size + 1:=by rw [← hwb]; simp
 obtain ⟨wc,hwc⟩:∃ wc,wb.alloc (.cells #[.int .u32 1] 43) = wc:=⟨_,rfl⟩
 have hbc:Below wb.heap.size wb wc:=by rw [← hwc]; exact bAl
 have hs:Sl wc (some ⟨wb.heap.size,0,none⟩) 1 1 [1]:=by rw [← hwc]; exact one_sl wb 1 43
 have hO3:=hO.keep hbc
 obtain ⟨x0,q0⟩:=hO3.cells 0 (by decide)
 obtain ⟨x1,q1⟩:=hO3.cells 1 (by decide)
 obtain ⟨x2,q2⟩:=hO3.cells 2 (by decide)
 have r0:=hO3.fz 0 (by decide)
 have r1:=hO3.fz 1 (by decide)
 have r2:=hO3.fz 2 (by decide)
 have H4:=Hd (three_set wc w.heap.size (.bool false) (.slice none 0 0) (.slice (some ⟨wb.heap.size,0,none⟩) 1 1) hO3.cells)
 have HF:=Hd (fun wf => newR_of (w:=w) (wk:=wc) (wf:=wf) (R:=w.heap.size) (Nat.le_refl _) hO3.lt (hbb.trans (hbc.mono hbb.size)) (sl_nil wc) (newAt_nil _) hs (fun x hx => by cases hx; simp; omega))
 have HZ:=Hd hz
 clear hbb hO hbc hs hO3 hz
 go_enter Tryz.func104,Tryz.ntmps104
 go_wp2_with fail
 obtain ⟨p0,p1,p2,c4⟩:=Uh H4
 generalize ((wc.setCell ⟨w.heap.size,0,none⟩ (.bool false)).setCell ⟨w.heap.size,1,none⟩ (.slice none 0 0)).setCell ⟨w.heap.size,2,none⟩ (.slice (some ⟨wb.heap.size,0,none⟩) 1 1) = wf at *
 refine bodyPost_ret (by simp [results,Tryz.results104,go_sem,p0,p1,p2]; try rfl) rfl ?_
 exact ⟨_,rfl,Uh HF wf c4 false⟩
theorem quiet_at {P:Program} {f:FuncId} {args:Array Value} {w:World} {d x:Nat} {v:Value} (h:Calls P f args (w.drewN (d + x)) fun e w' => e = .returned v ∧ ∃ k,w' = (w.drewN (d + x)).drewN k) :
  Calls P f args (w.drewN (d + x)) fun e w'' => e = .returned v ∧ ∃ n,w'' = w.drewN (d + n) :=
 h.mono fun _ _ ⟨he,m,hm⟩ => ⟨he,x + m,by rw [hm,drewN_add,Nat.add_assoc]⟩

set_option maxHeartbeats 2000000 in
theorem whole_any (w:World) (B:Nat) (h1:w.cell? ⟨B,12,none⟩ = some (.slice none 0 0)) (h2:w.cell? ⟨B,14,none⟩ = some (.slice none 0 0)) (h3:w.cell? ⟨B,16,none⟩ = some (.slice none 0 0)) (h4:w.cell? ⟨B,18,none⟩ = some (.slice none 0 0)) :
  Calls Tryz.prog 66 #[.pointer (some ⟨B,0,none⟩)] w fun e w' => e = .returned (.bool true) ∧ w' = w:=by
 go_enter Tryz.func66,Tryz.ntmps66
 go_wp2
 go_loop [3] (fun i => i = .int .i64 0) (fun i => (intOf i).toNat)
 case atStart => rfl
 case round =>
  subst hrel
  go_wp2
  go_loop [4] (fun i => i = .int .i64 0) (fun i => (intOf i).toNat)
  case atStart => rfl
  case round =>
   subst hrel
   go_wp2
   go_loop [5] (fun i => i = .int .i64 0) (fun i => (intOf i).toNat)
   case atStart => rfl
   case round =>
    subst hrel
    go_wp2
    go_loop [9] (fun i => i = .int .i64 0) (fun i => (intOf i).toNat)
    case atStart => rfl
    case round =>
     subst hrel
     go_wp2
     go_ret
     exact ⟨rfl,rfl⟩
set_option maxHeartbeats 4000000 in
theorem intact_nil (w:World) (B:Nat) (a0:Option Addr) (c0:Nat) (h0:w.cell? ⟨B,0,none⟩ = some (.slice a0 0 c0)) (h2:w.cell? ⟨B,2,none⟩ = some (.slice none 0 0)) (h4:w.cell? ⟨B,4,none⟩ = some (.slice none 0 0)) (h6:w.cell? ⟨B,6,none⟩ = some (.slice none 0 0)) (h8:w.cell? ⟨B,8,none⟩ = some (.slice none 0 0)) (h10:w.cell? ⟨B,10,none⟩ = some (.slice none 0 0)) (h12:w.cell? ⟨B,12,none⟩ = some (.slice none 0 0)) (h14:w.cell? ⟨B,14,none⟩ = some (.slice none 0 0)) (h16:w.cell? ⟨B,16,none⟩ = some (.slice none 0 0)) (h18:w.cell? ⟨B,18,none⟩ = some (.slice none 0 0)) :
  Calls Tryz.prog 26 #[.pointer (some ⟨B,0,none⟩)] w fun e w' => e = .returned (.bool true) ∧ ∃ k,w' = w.drewN k:=by
 go_enter Tryz.func26,Tryz.ntmps26
 go_wp2
 go_loopw [3] (fun i wr => i = .int .i64 0 ∧ ∃ d,wr = w.drewN d) (fun i _ => (intOf i).toNat)
 case atStart => exact ⟨rfl,0,rfl⟩
 case round =>
  obtain ⟨rfl,d,rfl⟩:=hrel
  go_wp2_with fail
  go_loopw [4] (fun i wr => i = .int .i64 0 ∧ ∃ d,wr = w.drewN d) (fun i _ => (intOf i).toNat)
  case atStart => exact ⟨rfl,_,rfl⟩
  case round =>
   obtain ⟨rfl,d,rfl⟩:=hrel
   go_wp2_with fail
   go_loopw [5] (fun i wr => i = .int .i64 0 ∧ ∃ d,wr = w.drewN d) (fun i _ => (intOf i).toNat)
   case atStart => exact ⟨rfl,_,rfl⟩
   case round =>
    obtain ⟨rfl,d,rfl⟩:=hrel
    go_wp2_with fail
    go_loopw [6] (fun i wr => i = .int .i64 0 ∧ ∃ d,wr = w.drewN d) (fun i _ => (intOf i).toNat)
    case atStart => exact ⟨rfl,_,rfl⟩
    case round =>
     obtain ⟨rfl,d,rfl⟩:=hrel
     go_wp2_with fail
     go_loopw [7] (fun i wr => i = .int .i64 0 ∧ ∃ d,wr = w.drewN d) (fun i _ => (intOf i).toNat)
     case atStart => exact ⟨rfl,_,rfl⟩
     case round =>
      obtain ⟨rfl,d,rfl⟩:=hrel
      go_wp2_with fail
      go_loopw [8] (fun i wr => i = .int .i64 0 ∧ ∃ d,wr = w.drewN d) (fun i _ => (intOf i).toNat)
      case atStart => exact ⟨rfl,_,rfl⟩
      case round =>
       obtain ⟨rfl,d,rfl⟩:=hrel
       go_wp2_with fail
       refine (whole_any (w.drewN d) B h12 h14 h16 h18).mono ?_
       rintro e w' ⟨rfl,rfl⟩
       go_wp2
       go_ret
       exact ⟨rfl,_,rfl⟩

set_option maxHeartbeats 4000000 in
set_option maxRecDepth 100000 in
theorem intact_some (w:World) (B g0 c0 g1 c1 m:Nat) (es:List Ent) (hm:es.length = m) (hm2:m ≤ maxLen) (h0:w.cell? ⟨B,0,none⟩ = some (.slice (some ⟨g0,0,none⟩) m c0)) (h1:w.cell? ⟨B,1,none⟩ = some (.slice (some ⟨g1,0,none⟩) m c1))
  (hr0:∀ k (h:k < es.length),w.cell? ⟨g0,k,none⟩ = some es[k].v) (hr1:∀ k (h:k < es.length),w.cell? ⟨g1,k,none⟩ = some es[k].v0)
  (hes:∀ e ∈ es,Sl w (some ⟨Ent.b e,0,none⟩) (e.xs.length + 3) e.c (e.xs ++ marks) ∧ Sl w (some ⟨e.b0,0,none⟩) (e.xs.length + 3) e.c0 (e.xs ++ marks))
  (h2:w.cell? ⟨B,2,none⟩ = some (.slice none 0 0)) (h4:w.cell? ⟨B,4,none⟩ = some (.slice none 0 0)) (h6:w.cell? ⟨B,6,none⟩ = some (.slice none 0 0)) (h8:w.cell? ⟨B,8,none⟩ = some (.slice none 0 0)) (h10:w.cell? ⟨B,10,none⟩ = some (.slice none 0 0)) (h12:w.cell? ⟨B,12,none⟩ = some (.slice none 0 0)) (h14:w.cell? ⟨B,14,none⟩ = some (.slice none 0 0)) (h16:w.cell? ⟨B,16,none⟩ = some (.slice none 0 0)) (h18:w.cell? ⟨B,18,none⟩ = some (.slice none 0 0)) :
  Calls Tryz.prog 26 #[.pointer (some ⟨B,0,none⟩)] w fun e w' => e = .returned (.bool true) ∧ ∃ k,w' = w.drewN k:=by
 unfold maxLen at hm2
 go_enter Tryz.func26,Tryz.ntmps26
 go_wp2
 go_loopw [3] (fun i wr => ∃ k:Nat,k ≤ m ∧ i = .int .i64 k ∧ ∃ d,wr = w.drewN d) (fun i _ => m - (intOf i).toNat)
 case atStart => exact ⟨0,Nat.zero_le _,rfl,0,rfl⟩
 case round =>
  obtain ⟨k,hk,rfl,d,rfl⟩:=hrel
  by_cases hlt:k < m
  ·have hlt':(k:Int) < (m:Int):=by omega
   have g0':=hr0 k (by omega)
   have g1':=hr1 k (by omega)
   have HE:=Hd (hes es[k] (List.getElem_mem (by omega)))
   generalize es[k] = E at g0' g1' HE
   unfold Ent.v at g0'
   unfold Ent.v0 at g1'
   have K:=fun j => (sameNat_any _ _ _ _ _ _ _ _ (w.drewN j) ((Uh HE).1.drewN j) ((Uh HE).2.drewN j))
   rw [show decide (E.xs ++ marks = E.xs ++ marks) = true from by simp] at K
   have KK:=Hd K
   clear K hr0 hr1 hes HE
   go_wp2_with fail
   go_quiet ((go_at_call 60; exact quiet_at (Uh KK _)))
   go_wp2
   exact ⟨⟨k + 1,by omega,by go_num,_,rfl⟩,by simp [intOf]; omega⟩
  ·clear hr0 hr1 hes
   go_wp2_with fail
   go_loopw [4] (fun i wr => i = .int .i64 0 ∧ ∃ d,wr = w.drewN d) (fun i _ => (intOf i).toNat)
   case atStart => exact ⟨rfl,_,rfl⟩
   case round =>
    obtain ⟨rfl,d,rfl⟩:=hrel
    go_wp2_with fail
    go_loopw [5] (fun i wr => i = .int .i64 0 ∧ ∃ d,wr = w.drewN d) (fun i _ => (intOf i).toNat)
    case atStart => exact ⟨rfl,_,rfl⟩
    case round =>
     obtain ⟨rfl,d,rfl⟩:=hrel
     go_wp2_with fail
     go_loopw [6] (fun i wr => i = .int .i64 0 ∧ ∃ d,wr = w.drewN d) (fun i _ => (intOf i).toNat)
     case atStart => exact ⟨rfl,_,rfl⟩
     case round =>
      obtain ⟨rfl,d,rfl⟩:=hrel
      go_wp2_with fail
      go_loopw [7] (fun i wr => i = .int .i64 0 ∧ ∃ d,wr = w.drewN d) (fun i _ => (intOf i).toNat)
      case atStart => exact ⟨rfl,_,rfl⟩
      case round =>
       obtain ⟨rfl,d,rfl⟩:=hrel
       go_wp2_with fail
       go_loopw [8] (fun i wr => i = .int .i64 0 ∧ ∃ d,wr = w.drewN d) (fun i _ => (intOf i).toNat)
       case atStart => exact ⟨rfl,_,rfl⟩
       case round =>
        obtain ⟨rfl,d,rfl⟩:=hrel
        go_wp2_with fail
        refine (whole_any (w.drewN d) B h12 h14 h16 h18).mono ?_
        rintro e w' ⟨rfl,rfl⟩
        go_wp2
        go_ret
        exact ⟨rfl,_,rfl⟩

theorem intact_any (w:World) (B:Nat) (v0 v1:Value) (es:List Ent) (hg:Giv w B v0 v1 es) :
  Calls Tryz.prog 26 #[.pointer (some ⟨B,0,none⟩)] w fun e w' => e = .returned (.bool true) ∧ ∃ k,w' = w.drewN k:=by
 obtain ⟨cur,hcur,hc20,hc0,hc1,hcr⟩:=hg.blk
 have c0:w.cell? ⟨B,0,none⟩ = some v0:=(cell_of_block hcur 0).trans hc0
 have c1:w.cell? ⟨B,1,none⟩ = some v1:=(cell_of_block hcur 1).trans hc1
 have cr:∀ i,2 ≤ i → i < 20 → w.cell? ⟨B,i,none⟩ = some (.slice none 0 0):=fun i h2 h20 => (cell_of_block hcur i).trans (hcr i h2 h20)
 have r2:=cr 2 (by omega) (by omega)
 have r4:=cr 4 (by omega) (by omega)
 have r6:=cr 6 (by omega) (by omega)
 have r8:=cr 8 (by omega) (by omega)
 have r10:=cr 10 (by omega) (by omega)
 have r12:=cr 12 (by omega) (by omega)
 have r14:=cr 14 (by omega) (by omega)
 have r16:=cr 16 (by omega) (by omega)
 have r18:=cr 18 (by omega) (by omega)
 obtain ⟨l0,o0⟩:=hg.own0
 obtain ⟨l1,o1⟩:=hg.own1
 rcases o0 with ⟨e0,n0⟩ | ⟨g0,p0,u0,e0,b0,k0,s0,t0,z0,x0⟩
 ·subst e0
  exact intact_nil w B none 0 c0 r2 r4 r6 r8 r10 r12 r14 r16 r18
 ·subst e0
  by_cases hz:es.length = 0
  ·rw [hz] at c0
   exact intact_nil w B _ p0 c0 r2 r4 r6 r8 r10 r12 r14 r16 r18
  ·rcases o1 with ⟨e1,n1⟩ | ⟨g1,p1,u1,e1,b1,k1,s1,t1,z1,x1⟩
   ·exact absurd n1 hz
   ·subst e1
    refine intact_some w B g0 p0 g1 p1 es.length es rfl (by omega) c0 c1 ?_ ?_ (fun e he => ⟨(hg.ents e he).sl,(hg.ents e he).sl0⟩) r2 r4 r6 r8 r10 r12 r14 r16 r18
    ·intro k hk
     rw [cell_of_block k0]
     have:(es.map Ent.v)[k]? = some es[k].v:=by simp [hk]
     rw [← x0] at this
     simpa [List.getElem?_take,hk] using this
    ·intro k hk
     rw [cell_of_block k1]
     have:(es.map Ent.v0)[k]? = some es[k].v0:=by simp [hk]
     rw [← x1] at this
     simpa [List.getElem?_take,hk] using this
end Go.Proofs.YtlolnaegfponeaaGreatDoor
