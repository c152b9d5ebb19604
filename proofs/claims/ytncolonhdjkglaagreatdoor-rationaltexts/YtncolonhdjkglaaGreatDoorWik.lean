/- Wrc -/
import Derived.Test.YtncolonhdjkglaaGreatDoorWrb
import Derived.Test.YtncolonhdjkglaaGreatDoorRa6
import Derived.Test.YtncolonhdjkglaaGreatDoorWi2
import Derived.Test.YtncolonhdjkglaaGreatDoorPa2
import Derived.Test.YtncolonhdjkglaaGreatDoorWr9
import Derived.Test.YtncolonhdjkglaaGreatDoorRa2
import Derived.Test.YtncolonhdjkglaaGreatDoorWic
namespace Go.Proofs.YtncolonhdjkglaaGreatDoor
open Go.RowKit Go.Deep
set_option linter.unusedVariables false
set_option maxHeartbeats 400000 in
theorem wmay_nil (a:Option Addr) (cap:Nat) (w:World) :
  Calls Tryz.prog 51 #[.slice a 0 cap] w fun e w' => e = .returned (.bool true) ∧ w' = w:=by
 go_enter Tryz.func51,Tryz.ntmps51
 go_wp2
 go_ret
 exact ⟨rfl,rfl⟩
set_option maxHeartbeats 400000 in
theorem wmay_long (a:Option Addr) (len cap:Nat) (w:World) (h:2048 < len) (hm:len ≤ maxLen) :
  Calls Tryz.prog 51 #[.slice a len cap] w fun e w' => e = .returned (.bool false) ∧ w' = w:=by
 unfold maxLen at hm
 go_enter Tryz.func51,Tryz.ntmps51
 go_wp2
 go_ret
 exact ⟨rfl,rfl⟩
set_option maxHeartbeats 400000 in
theorem wmay_some (b off:Nat) (n cap:Nat) (x:Int) (w:World) (h:(n:Int) ≤ 2048) (h0:0 < n) (hc:w.cell? ⟨b,off + (n-1),none⟩ = some (.int .u32 x)) :
  Calls Tryz.prog 51 #[.slice (some ⟨b,off,none⟩) n cap] w fun e w' => e = .returned (.bool (x != 0)) ∧ w' = w:=by
 have h1:((n:Int) == 0) = false:=by simp; omega
 have h2:((n:Int) - 1).toNat = n - 1:=by omega
 go_enter Tryz.func51,Tryz.ntmps51
 go_wp2
 go_ret
 exact ⟨rfl,rfl⟩

theorem wmaynat_any (a:Option Addr) (n c:Nat) (xs:List Nat) (w:World) (h:Sl w a n c xs) :
  Calls Tryz.prog 51 #[.slice a n c] w fun e w' => e = .returned (.bool (MayL xs)) ∧ w' = w:=by
 have hl:=h.len
 by_cases hlong:2048 < n
 ·refine (wmay_long a n c w hlong (Nat.le_trans h.le h.cap)).mono ?_
  rintro e w' ⟨rfl,rfl⟩
  have:MayL xs = false:=by simp [MayL]; omega
  rw [this]; exact ⟨rfl,rfl⟩
 ·rcases h.cells with h0 | ⟨b,off,rfl,hc⟩
  ·subst h0
   simp at hl
   subst hl
   refine (wmay_nil a c w).mono ?_
   rintro e w' ⟨rfl,rfl⟩
   exact ⟨rfl,rfl⟩
  ·by_cases hz:n = 0
   ·subst hz
    have:xs = []:=List.eq_nil_of_length_eq_zero hl
    subst this
    refine (wmay_nil _ c w).mono ?_
    rintro e w' ⟨rfl,rfl⟩
    exact ⟨rfl,rfl⟩
   ·have:=hc (n - 1) (by omega)
    refine (wmay_some b off n c _ w (by omega) (by omega) this).mono ?_
    rintro e w' ⟨rfl,rfl⟩
    refine ⟨?_,rfl⟩
    have e1:xs.isEmpty = false:=by cases xs with | nil => simp at hl; omega | cons => rfl
    have e2:MayL xs = (((xs.getD (n - 1) 0:Nat):Int) != 0):=by
     simp only [MayL,hl,e1,Bool.false_or]
     rw [show decide (n ≤ 2048) = true from by simp; omega]
     simp only [Bool.true_and]
     rw [Bool.eq_iff_iff,bne_iff_ne,bne_iff_ne]
     omega
    rw [e2]

theorem limbs_one_iff {G:Nat} {m:Nat} (hl:(limbs G).length = m):(m = 1 ∧ (limbs G).getD 0 0 = 1) ↔ G = 1:=by
 constructor
 ·rintro ⟨h1,h2⟩
  have e:limbs G = [1]:=by
   match hh:limbs G,(by rw [hl,h1]:(limbs G).length = 1) with
   | [x],_ => rw [hh] at h2; simp at h2; rw [h2]
  have:=limbs_v G
  rw [e] at this
  simpa [val] using this.symm
 ·rintro rfl
  have e:limbs 1 = [1]:=rfl
  rw [e] at hl ⊢
  exact ⟨hl.symm,rfl⟩

set_option maxHeartbeats 8000000 in
theorem wmay_any (neg:Bool) (a1 a2:Option Addr) (n1 c1 n2 c2:Nat) (xs ys:List Nat) (w:World) (h1:Sl w a1 n1 c1 xs) (h2:Sl w a2 n2 c2 ys) (ox:Ok xs) (oy:Ok ys) :
  Calls Tryz.prog 29 #[ratV neg a1 n1 c1 a2 n2 c2] w fun e w' => e = .returned (.bool (MayR neg xs ys)) ∧ Below w.heap.size w w':=by
 have bx:=Box.made w neg a1 n1 c1 a2 n2 c2
 obtain ⟨wa,hwa⟩:∃ wa,ratBox w neg a1 n1 c1 a2 n2 c2 = wa:=⟨_,rfl⟩
 rw [hwa] at bx
 unfold ratBox at hwa
 have bel:=bx.bel
 have d0:=bx.d0
 have d1:=bx.d1
 have d2:=bx.d2
 have K1:=wmaynat_any a1 n1 c1 xs wa (h1.below bel)
 have K2:=wmaynat_any a2 n2 c2 ys wa (h2.below bel)
 have hl1:=h1.len
 have hl2:=h2.len
 have HB:=Hd bel
 cases m1:MayL xs
 ·rw [m1] at K1
  have K1':=Hd K1
  have HR:=Hd (show MayR neg xs ys = false from by simp [MayR,m1])
  clear K1 K2 h1 h2 m1 bel bx
  unfold ratV
  go_enter Tryz.func29,Tryz.ntmps29
  go_wp2_with fail
  refine (Uh K1').mono ?_
  rintro _ _ ⟨rfl,hw⟩
  obtain rfl:=hw.symm
  clear hw
  go_wp2_with fail
  go_ret
  rw [Uh HR]
  exact ⟨rfl,Uh HB⟩
 ·rw [m1] at K1
  cases m2:MayL ys
  ·rw [m2] at K2
   have K1':=Hd K1
   have K2':=Hd K2
   have HR:=Hd (show MayR neg xs ys = false from by simp [MayR,m2])
   clear K1 K2 h1 h2 m1 m2 bel bx
   unfold ratV
   go_enter Tryz.func29,Tryz.ntmps29
   go_wp2_with fail
   refine (Uh K1').mono ?_
   rintro _ _ ⟨rfl,hw⟩
   obtain rfl:=hw.symm
   clear hw
   go_wp2_with fail
   refine (Uh K2').mono ?_
   rintro _ _ ⟨rfl,hw⟩
   obtain rfl:=hw.symm
   clear hw
   go_wp2_with fail
   go_ret
   rw [Uh HR]
   exact ⟨rfl,Uh HB⟩
  ·rw [m2] at K2
   have K1':=Hd K1
   have K2':=Hd K2
   by_cases hy:ys = []
   ·have HR:=Hd (show MayR neg xs ys = false from by simp [MayR,hy])
    have hn2:n2 = 0:=by rw [← hl2,hy]; rfl
    subst hn2
    clear K1 K2 h1 h2 m1 m2 bel bx
    unfold ratV
    go_enter Tryz.func29,Tryz.ntmps29
    go_wp2_with fail
    refine (Uh K1').mono ?_
    rintro _ _ ⟨rfl,hw⟩
    obtain rfl:=hw.symm
    clear hw
    go_wp2_with fail
    refine (Uh K2').mono ?_
    rintro _ _ ⟨rfl,hw⟩
    obtain rfl:=hw.symm
    clear hw
    go_wp2_with fail
    go_ret
    rw [Uh HR]
    exact ⟨rfl,Uh HB⟩
   ·have hn2:0 < n2:=by rw [← hl2]; exact List.length_pos_iff.2 hy
    have t1:((n2:Int) == 0) = false:=by simp; omega
    have t2:¬ (n2:Int) = 0:=by omega
    obtain ⟨b2,o2,e2,hc2⟩:=h2.cells.resolve_left hy
    have g2:=(h2.below bel).cells.resolve_left hy
    subst e2
    obtain ⟨b2',o2',e2',g2⟩:=g2
    cases e2'
    have g2:=g2 0 (by omega)
    rw [Nat.add_zero] at g2
    by_cases hx:xs = []
    ·have hn1:n1 = 0:=by rw [← hl1,hx]; rfl
     have hiff:=limbs_one_iff (G:=val ys) (m:=n2) (by rw [limbs_val oy (MayL.norm m2)]; exact hl2)
     rw [limbs_val oy (MayL.norm m2)] at hiff
     have hM0:MayR true xs ys = false:=by simp [MayR,hx]
     have hM1:val ys = 1 → MayR false xs ys = true:=fun e => by
      have e1:Nat.gcd (val xs) (val ys) = 1:=by rw [hx,e]; rfl
      simp [MayR,m1,m2,hy,e1]
     have hM2:val ys ≠ 1 → MayR false xs ys = false:=fun e => by
      have e1:¬ Nat.gcd (val xs) (val ys) = 1:=by rw [hx]; simpa [val] using e
      simp [MayR,e1]
     subst hn1
     have by0:=oy.getD 0
     generalize ys.getD 0 0 = y0 at *
     clear h1 h2 K1 K2 bx bel hc2 hx
     cases neg
     ·by_cases hl:n2 = 1
      ·have t3:((n2:Int) == 1) = true:=by simp; omega
       by_cases h0:y0 = 1
       ·have t4:((y0:Int) == 1) = true:=by simp; omega
        have HR:=Hd (show MayR false xs ys = true from by exact hM1 (hiff.1 ⟨hl,h0⟩))
        clear hM0 hM1 hM2 hiff m1 m2 hl h0
        unfold ratV
        go_enter Tryz.func29,Tryz.ntmps29
        go_wp2_with fail
        refine (Uh K1').mono ?_
        rintro _ _ ⟨rfl,hw⟩
        obtain rfl:=hw.symm
        clear hw
        go_wp2_with fail
        refine (Uh K2').mono ?_
        rintro _ _ ⟨rfl,hw⟩
        obtain rfl:=hw.symm
        clear hw
        go_wp2_with fail
        go_ret
        rw [Uh HR]
        exact ⟨rfl,Uh HB⟩
       ·have t4:((y0:Int) == 1) = false:=by simp; omega
        have HR:=Hd (show MayR false xs ys = false from hM2 (fun e => h0 (hiff.2 e).2))
        clear hM0 hM1 hM2 hiff m1 m2 hl h0
        unfold ratV
        go_enter Tryz.func29,Tryz.ntmps29
        go_wp2_with fail
        refine (Uh K1').mono ?_
        rintro _ _ ⟨rfl,hw⟩
        obtain rfl:=hw.symm
        clear hw
        go_wp2_with fail
        refine (Uh K2').mono ?_
        rintro _ _ ⟨rfl,hw⟩
        obtain rfl:=hw.symm
        clear hw
        go_wp2_with fail
        go_ret
        rw [Uh HR]
        exact ⟨rfl,Uh HB⟩
      ·have t3:((n2:Int) == 1) = false:=by simp; omega
       have HR:=Hd (show MayR false xs ys = false from hM2 (fun e => hl (hiff.2 e).1))
       clear hM0 hM1 hM2 hiff m1 m2 hl
       unfold ratV
       go_enter Tryz.func29,Tryz.ntmps29
       go_wp2_with fail
       refine (Uh K1').mono ?_
       rintro _ _ ⟨rfl,hw⟩
       obtain rfl:=hw.symm
       clear hw
       go_wp2_with fail
       refine (Uh K2').mono ?_
       rintro _ _ ⟨rfl,hw⟩
       obtain rfl:=hw.symm
       clear hw
       go_wp2_with fail
       go_ret
       rw [Uh HR]
       exact ⟨rfl,Uh HB⟩
     ·have HR:=Hd (show MayR true xs ys = false from hM0)
      clear hM0 hM1 hM2 hiff m1 m2
      unfold ratV
      go_enter Tryz.func29,Tryz.ntmps29
      go_wp2_with fail
      refine (Uh K1').mono ?_
      rintro _ _ ⟨rfl,hw⟩
      obtain rfl:=hw.symm
      clear hw
      go_wp2_with fail
      refine (Uh K2').mono ?_
      rintro _ _ ⟨rfl,hw⟩
      obtain rfl:=hw.symm
      clear hw
      go_wp2_with fail
      go_ret
      rw [Uh HR]
      exact ⟨rfl,Uh HB⟩
    ·have hn1:0 < n1:=by rw [← hl1]; exact List.length_pos_iff.2 hx
     have t5:((n1:Int) == 0) = false:=by simp; omega
     have hb1:n1 ≤ 10000000:=by have:=MayL.len m1; omega
     have hb2:n2 ≤ 10000000:=by have:=MayL.len m2; omega
     have K:=wgcd_any a1 _ n1 c1 n2 c2 xs ys wa (h1.below bel) (h2.below bel) ox oy (MayL.norm m1) (MayL.norm m2) hx hy hb1 hb2
     obtain ⟨G,hG⟩:∃ G,Nat.gcd (val xs) (val ys) = G:=⟨_,rfl⟩
     have hM1:G = 1 → MayR neg xs ys = true:=fun e => by
      have e1:Nat.gcd (val xs) (val ys) = 1:=hG.trans e
      simp [MayR,m1,m2,hy,hx,e1]
     have hM2:G ≠ 1 → MayR neg xs ys = false:=fun e => by
      have e1:¬ Nat.gcd (val xs) (val ys) = 1:=fun h => e (hG.symm.trans h)
      simp [MayR,e1]
     rw [hG] at K
     have HG:=Hd (show 0 < G by rw [← hG]; exact Nat.gcd_pos_of_pos_left _ (Nat.pos_of_ne_zero (val_ne (MayL.norm m1) hx)))
     have HK:=Hd K
     have HM:=Hd (And.intro hM1 hM2)
     clear K hM1 hM2 hG h1 h2 K1 K2 bx bel hc2 hx hy m1 m2
     unfold ratV
     go_enter Tryz.func29,Tryz.ntmps29
     go_wp2_with fail
     refine (Uh K1').mono ?_
     rintro _ _ ⟨rfl,hw⟩
     obtain rfl:=hw.symm
     clear hw
     go_wp2_with fail
     refine (Uh K2').mono ?_
     rintro _ _ ⟨rfl,hw⟩
     obtain rfl:=hw.symm
     clear hw
     go_wp2_with fail
     refine (Uh HK).mono ?_
     rintro _ w1 ⟨a3,m3,c3,rfl,s3,n3,hnl,b3⟩
     have hm3:0 < m3:=by
      rw [← s3.len]
      refine List.length_pos_iff.2 (fun e => ?_)
      have:=limbs_eq_nil.1 e
      have:=Uh HG
      omega
     obtain ⟨b4,o4,rfl,hc4⟩:=s3.cells.resolve_left (fun e => by have:=s3.len; rw [e] at this; simp at this; omega)
     have g4:=hc4 0 (by rw [s3.len]; exact hm3)
     rw [Nat.add_zero] at g4
     have hiff:=limbs_one_iff (G:=G) s3.len
     have bg0:=(limbs_ok G).getD 0
     have HB1:=Hd ((Uh HB).trans (b3.mono (Uh HB).size))
     generalize (limbs G).getD 0 0 = y0 at *
     clear s3 n3 hnl b3 hc4 HK
     by_cases hl:m3 = 1
     ·have t6:((m3:Int) == 1) = true:=by simp; omega
      by_cases h0:y0 = 1
      ·have t7:((y0:Int) == 1) = true:=by simp; omega
       have HR:=Hd (show MayR neg xs ys = true from (Uh HM).1 (hiff.1 ⟨hl,h0⟩))
       clear hl h0 hiff
       go_wp2_with fail
       go_ret
       rw [Uh HR]
       exact ⟨rfl,Uh HB1⟩
      ·have t7:((y0:Int) == 1) = false:=by simp; omega
       have HR:=Hd (show MayR neg xs ys = false from (Uh HM).2 (fun e => h0 (hiff.2 e).2))
       clear hl h0 hiff
       go_wp2_with fail
       go_ret
       rw [Uh HR]
       exact ⟨rfl,Uh HB1⟩
     ·have t6:((m3:Int) == 1) = false:=by simp; omega
      have HR:=Hd (show MayR neg xs ys = false from (Uh HM).2 (fun e => hl (hiff.2 e).1))
      clear hl hiff
      go_wp2_with fail
      go_ret
      rw [Uh HR]
      exact ⟨rfl,Uh HB1⟩

def AnPost (w w':World) (neg:Bool) (a1:Option Addr) (n1 c1:Nat) (a2:Option Addr) (n2 c2:Nat) (er:Int) (e:Ending):Prop :=
 e = .returned (.tuple #[if er = 0 then ratV (neg && decide (0 < n1)) a1 n1 c1 a2 n2 c2 else ratV false none 0 0 none 0 0,.int .i64 er]) ∧ Below w.heap.size w w'

set_option maxHeartbeats 8000000 in
theorem answer_any (neg:Bool) (a1 a2:Option Addr) (n1 c1 n2 c2:Nat) (er:Int) (w:World) :
  Calls Tryz.prog 83 #[.bool neg,.slice a1 n1 c1,.slice a2 n2 c2,.int .i64 er] w fun e w' => AnPost w w' neg a1 n1 c1 a2 n2 c2 er e:=by
 obtain ⟨wb,hwb⟩:∃ wb,w.alloc (.cells #[.bool false,.slice none 0 0,.slice none 0 0] 25) = wb:=⟨_,rfl⟩
 have hbb:Below w.heap.size w wb:=by rw [← hwb]; exact bAl
 have hO:Out wb w.heap.size:=by rw [← hwb]; exact Out.made w
 have HO:=Hd hO
 have HB:=Hd hbb
 clear hbb
 by_cases he:er = 0
 ·subst he
  clear hO
  go_enter Tryz.func83,Tryz.ntmps83
  go_wp2_with fail
  refine (signed_any neg a1 a2 n1 c1 n2 c2 wb).mono ?_
  rintro _ w2 ⟨rfl,b2⟩
  have hO3:=(Uh HO).keep b2
  obtain ⟨x0,q0⟩:=hO3.cells 0 (by decide)
  obtain ⟨x1,q1⟩:=hO3.cells 1 (by decide)
  obtain ⟨x2,q2⟩:=hO3.cells 2 (by decide)
  have r0:=hO3.fz 0 (by decide)
  have r1:=hO3.fz 1 (by decide)
  have r2:=hO3.fz 2 (by decide)
  obtain ⟨SG,hSG⟩:∃ SG,(neg && decide (0 < n1)) = SG:=⟨_,rfl⟩
  rw [hSG]
  have HSG:=Hd hSG
  have H4:=Hd (three_set w2 w.heap.size (.bool SG) (.slice a1 n1 c1) (.slice a2 n2 c2) hO3.cells)
  have HB2:=Hd ((Uh HB).trans (b2.mono (Uh HB).size))
  unfold ratV
  clear hO3 b2 hSG
  go_wp2_with fail
  obtain ⟨p0,p1,p2,c4⟩:=Uh H4
  generalize ((w2.setCell ⟨w.heap.size,0,none⟩ (.bool SG)).setCell ⟨w.heap.size,1,none⟩ (.slice a1 n1 c1)).setCell ⟨w.heap.size,2,none⟩ (.slice a2 n2 c2) = wf at *
  refine bodyPost_ret (by simp [results,Tryz.results83,go_sem,p0,p1,p2]; try rfl) rfl ?_
  refine ⟨?_,(Uh HB2).trans (c4.below (Uh HB2).size (fun k hk => by omega))⟩
  rw [if_pos rfl,Uh HSG]
  rfl
 ·have t1:(er == 0) = false:=by simpa using he
  have t2:(er != 0) = true:=by simpa using he
  obtain ⟨x0,q0⟩:=hO.cells 0 (by decide)
  obtain ⟨x1,q1⟩:=hO.cells 1 (by decide)
  obtain ⟨x2,q2⟩:=hO.cells 2 (by decide)
  have r0:=hO.fz 0 (by decide)
  have r1:=hO.fz 1 (by decide)
  have r2:=hO.fz 2 (by decide)
  have H4:=Hd (three_set wb w.heap.size (.bool false) (.slice none 0 0) (.slice none 0 0) hO.cells)
  clear hO
  go_enter Tryz.func83,Tryz.ntmps83
  go_wp2_with fail
  obtain ⟨p0,p1,p2,c4⟩:=Uh H4
  generalize ((wb.setCell ⟨w.heap.size,0,none⟩ (.bool false)).setCell ⟨w.heap.size,1,none⟩ (.slice none 0 0)).setCell ⟨w.heap.size,2,none⟩ (.slice none 0 0) = wf at *
  refine bodyPost_ret (by simp [results,Tryz.results83,go_sem,p0,p1,p2]; try rfl) rfl ?_
  refine ⟨?_,(Uh HB).trans (c4.below (Uh HB).size (fun k hk => by omega))⟩
  rw [if_neg he]
  rfl
def bigN (v:Nat):Bool:=decide (2048 < (limbs v).length)
def MuPost (w w':World) (sg:Bool) (N M:Nat) (e:Ending):Prop:=if bigN N || bigN M then ResR w w' false [] [] 2 e else ResR w w' (sg && decide (N ≠ 0)) (limbs N) (limbs M) 0 e
theorem Sl.nilc {w:World} {a:Option Addr} {n c:Nat} {xs:List Nat} (h:Sl w a n c xs) (hx:xs ≠ []):a = none → c = 0:=fun e => by
 rcases h.cells with h | ⟨b,off,h,_⟩
 ·exact absurd h hx
 ·rw [e] at h; cases h
def NewRz (w w':World) (g:Bool) (xs ys:List Nat) (v:Value):Prop:=∃ aN mN cN aD mD cD,v = ratV g aN mN cN aD mD cD ∧ (aN = none → cN = 0) ∧ (aD = none → cD = 0) ∧ Sl w' aN mN cN xs ∧ Sl w' aD mD cD ys ∧ NewAt w.heap.size aN ∧ NewAt w.heap.size aD ∧ Below w.heap.size w w'
theorem NewRz.new {w w':World} {g:Bool} {xs ys:List Nat} {v:Value} (h:NewRz w w' g xs ys v):NewR w w' g xs ys v:=by
 obtain ⟨aN,mN,cN,aD,mD,cD,e,_,_,h1,h2,h3,h4,h5⟩:=h
 exact ⟨aN,mN,cN,aD,mD,cD,e,h1,h2,h3,h4,h5⟩
theorem ok_is1:Ok [1]:=by rw [← limbs_1]; exact limbs_ok 1


def ByPost (N:Nat) (w w':World) (q r:Nat) (e:Ending):Prop:=∃ a n c ps a' m c',e = .returned (.tuple #[.slice a n c,.slice a' m c']) ∧ Wide w' a n c q ps ∧ n ≤ N ∧ Sl w' a' m c' (limbs r) ∧ Below w.heap.size w w'

theorem guess_ge {B d d1 d0 r x:Nat} (hB:0 < B) (hd:d = d1 * B + d0) (h1:0 < d1) (hx:x < B):(r * B + x) / d ≤ r / d1:=by
 rw [Nat.le_div_iff_mul_le h1]
 have hdp:0 < d:=by rw [hd]; exact Nat.lt_of_lt_of_le (Nat.mul_pos h1 hB) (Nat.le_add_right _ _)
 have hq:(r * B + x) / d * d ≤ r * B + x:=Nat.div_mul_le_self _ _
 generalize (r * B + x) / d = q at *
 have h2:q * d1 * B ≤ q * d:=by rw [hd,Nat.mul_add,Nat.mul_assoc]; exact Nat.le_add_right _ _
 have h3:q * d1 * B < (r + 1) * B:=by rw [Nat.add_mul]; omega
 exact Nat.le_of_lt_succ (Nat.lt_of_mul_lt_mul_right h3)
theorem digit_lt {B d r x:Nat} (hr:r < d) (hx:x < B):(r * B + x) / d < B:=by
 rw [Nat.div_lt_iff_lt_mul (by omega)]
 have h:(r + 1) * B ≤ d * B:=Nat.mul_le_mul_right _ hr
 rw [Nat.add_mul] at h
 rw [Nat.mul_comm B d]
 omega

theorem limbs_is_one {G:Nat}:limbs G = [1] ↔ G = 1:=by
 constructor
 ·intro h
  have:=(limbs_rep G).val
  rw [h] at this
  simpa [val] using this.symm
 ·intro h
  have:=limbs_val (xs:=[1]) (by intro x hx; simp at hx; subst hx; decide) (by simp [Norm])
  rw [h]
  simpa [val] using this

set_option maxHeartbeats 8000000 in
theorem cancel_any (N:Nat) (a1 a2:Option Addr) (n1 c1 n2 c2 v:Nat) (ps:List Pc) (ys:List Nat) (w:World) (h1:Wide w a1 n1 c1 v ps) (hn1:n1 ≤ N) (h2:Sl w a2 n2 c2 ys) (oy:Ok ys) (m2:MayL ys = true) (hy:ys ≠ []) (hT:Tab64 w)
  (hBy:∀ W a m c zs,Below w.heap.size w W → Sl W a m c zs → Ok zs → MayL zs = true → zs ≠ [] → Calls Tryz.prog 58 #[.slice a1 n1 c1,.slice a m c] W fun e w' => ByPost N W w' (v / val zs) (v % val zs) e) :
  Calls Tryz.prog 81 #[.slice a1 n1 c1,.slice a2 n2 c2] w fun e w' => ByPost N w w' (v / Nat.gcd v (val ys)) (val ys / Nat.gcd v (val ys)) e:=by
 have vy:=val_pos_of_may m2 hy
 have K1:=isOne_any a2 n2 c2 ys w h2 oy
 by_cases e1:ys = [1]
 ·rw [decide_eq_true e1] at K1
  have HE:=Hd (show v / Nat.gcd v (val ys) = v ∧ limbs (val ys / Nat.gcd v (val ys)) = ys from by
   have hv1:val ys = 1:=by rw [e1]; simp [val]
   refine ⟨by rw [hv1]; simp,?_⟩
   have:Nat.gcd v (val ys) = 1:=by rw [hv1]; simp
   rw [this,Nat.div_one]
   exact limbs_val oy (MayL.norm m2))
  have HK:=Hd K1
  have H:=Hd (And.intro h1 (And.intro hn1 h2))
  clear K1 e1 h1 h2 hBy hT
  go_enter Tryz.func81,Tryz.ntmps81
  go_wp2_with fail
  refine (Uh HK).mono ?_
  rintro _ _ ⟨rfl,hw⟩
  obtain rfl:=hw.symm
  clear hw
  go_wp2_with fail
  go_ret2
  exact ⟨a1,n1,c1,ps,a2,n2,c2,rfl,by rw [(Uh HE).1]; exact (Uh H).1,(Uh H).2.1,by rw [(Uh HE).2]; exact (Uh H).2.2,Below.refl _ _⟩
 ·rw [decide_eq_false e1] at K1
  have HK:=Hd K1
  have hgcd:Nat.gcd (v % val ys) (val ys) = Nat.gcd v (val ys):=by rw [Nat.gcd_comm v,Nat.gcd_rec (val ys) v]
  have mr:MayL (limbs (v % val ys)) = true:=may_small m2 oy (Nat.le_of_lt (Nat.mod_lt _ vy))
  have HB1:=Hd (hBy w a2 n2 c2 ys (Below.refl _ _) h2 oy m2 hy)
  have hgp:0 < Nat.gcd v (val ys):=Nat.gcd_pos_of_pos_right _ vy
  have mg:MayL (limbs (Nat.gcd v (val ys))) = true:=may_small m2 oy (Nat.gcd_le_right _ vy)
  obtain ⟨G,hG⟩:∃ G,Nat.gcd v (val ys) = G:=⟨_,rfl⟩
  rw [hG] at hgcd hgp mg ⊢
  have HG:=Hd hgcd
  clear K1 e1 hgcd hG
  go_enter Tryz.func81,Tryz.ntmps81
  go_wp2_with fail
  refine (Uh HK).mono ?_
  rintro _ _ ⟨rfl,hw⟩
  obtain rfl:=hw.symm
  clear hw
  go_wp2_with fail
  refine (Uh HB1).mono ?_
  rintro _ wb ⟨ab,nb,cb,bs,ar,mr_,cr,rfl,hWb,hnb,sr,hbb⟩
  have KD:=ratDivisor_any ar a2 mr_ cr n2 c2 (limbs (v % val ys)) ys wb sr (h2.below hbb) (limbs_rep _).ok oy mr m2 (hT.below hbb)
  rw [(limbs_rep _).val,Uh HG] at KD
  have HKD:=Hd KD
  have HBb:=Hd hbb
  clear KD hWb hnb sr hbb HB1 HK
  go_wp2_with fail
  refine (Uh HKD).mono ?_
  rintro _ wd ⟨ad,md,cd,rfl,sd,nd,bd⟩
  have hbd:=(Uh HBb).trans (bd.mono (Uh HBb).size)
  have KO:=isOne_any ad md cd (limbs G) wd sd (limbs_rep _).ok
  by_cases g1:G = 1
  ·rw [decide_eq_true (limbs_is_one.2 g1)] at KO
   have HKO:=Hd KO
   have H:=Hd (And.intro (h1.below hbd) (And.intro hn1 (And.intro (h2.below hbd) hbd)))
   have HL:=Hd (limbs_val oy (MayL.norm m2))
   clear KO HKD h1 h2 hBy hT sd nd bd hbd
   subst g1
   go_wp2_with fail
   refine (Uh HKO).mono ?_
   rintro _ _ ⟨rfl,hw⟩
   obtain rfl:=hw.symm
   clear hw
   go_wp2_with fail
   go_ret2
   exact ⟨a1,n1,c1,ps,a2,n2,c2,rfl,by rw [Nat.div_one]; exact (Uh H).1,(Uh H).2.1,by rw [Nat.div_one,Uh HL]; exact (Uh H).2.2.1,(Uh H).2.2.2⟩
  ·rw [decide_eq_false (fun h => g1 (limbs_is_one.1 h))] at KO
   have HKO:=Hd KO
   have nzG:limbs G ≠ []:=limbs_ne hgp
   have KB:=hBy wd ad md cd (limbs G) hbd sd (limbs_rep _).ok mg nzG
   rw [(limbs_rep _).val] at KB
   have HKB:=Hd KB
   have HQ:=Hd (fun (W:World) (hb:Below wd.heap.size wd W) => (by have K:=ratQuotient_any a2 ad n2 c2 md cd ys (limbs G) W ((h2.below hbd).below hb) (sd.below hb) oy (limbs_rep _).ok m2 mg nzG; rw [(limbs_rep _).val] at K; exact K:Calls Tryz.prog 79 #[.slice a2 n2 c2,.slice ad md cd] W fun e w' => OldN W w' a2 n2 c2 (val ys / G) e))
   have HBd:=Hd hbd
   clear KO KB HKD h1 h2 hBy hT sd nd bd hbd
   go_wp2_with fail
   refine (Uh HKO).mono ?_
   rintro _ _ ⟨rfl,hw⟩
   obtain rfl:=hw.symm
   clear hw HKO
   go_wp2_with fail
   refine (Uh HKB).mono ?_
   rintro _ we ⟨ae,ne,ce,es,as_,ms,cs,rfl,hWe,hne,ss,hbe⟩
   have HK2:=Hd (Uh HQ we hbe)
   have H:=Hd (And.intro hWe (And.intro hne hbe))
   clear hWe hne ss hbe HKB HQ
   go_wp2_with fail
   refine (Uh HK2).mono ?_
   rintro _ wf ⟨af,mf,cf,rfl,sf,of,bf⟩
   have H2:=Hd (And.intro sf bf)
   clear sf of bf HK2
   go_wp2_with fail
   go_ret2
   exact ⟨ae,ne,ce,es,af,mf,cf,rfl,(Uh H).1.below (Uh H2).2,(Uh H).2.1,(Uh H2).1,(Uh HBd).trans (((Uh H).2.2.trans ((Uh H2).2.mono (Uh H).2.2.size)).mono (Uh HBd).size)⟩
end Go.Proofs.YtncolonhdjkglaaGreatDoor
