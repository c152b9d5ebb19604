/- Wrc -/
import Derived.Test.YtgfpfjghdbcihaaGreatDoorWrb
import Derived.Test.YtgfpfjghdbcihaaGreatDoorRa6
import Derived.Test.YtgfpfjghdbcihaaGreatDoorWij
import Derived.Test.YtgfpfjghdbcihaaGreatDoorRl4
namespace Go.Proofs.YtgfpfjghdbcihaaGreatDoor
open Go.RowKit Go.Deep
set_option linter.unusedVariables false
set_option maxHeartbeats 400000 in
theorem wmay_nil (a:Option Addr) (cap:Nat) (w:World) :
  Calls Tryz.prog 124 #[.slice a 0 cap] w fun e w' => e = .returned (.bool true) ∧ w' = w:=by
 go_enter Tryz.func124,Tryz.ntmps124
 go_wp2
 go_ret
 exact ⟨rfl,rfl⟩
set_option maxHeartbeats 400000 in
theorem wmay_long (a:Option Addr) (len cap:Nat) (w:World) (h:2048 < len) (hm:len ≤ maxLen) :
  Calls Tryz.prog 124 #[.slice a len cap] w fun e w' => e = .returned (.bool false) ∧ w' = w:=by
 unfold maxLen at hm
 go_enter Tryz.func124,Tryz.ntmps124
 go_wp2
 go_ret
 exact ⟨rfl,rfl⟩
set_option maxHeartbeats 400000 in
theorem wmay_some (b off:Nat) (n cap:Nat) (x:Int) (w:World) (h:(n:Int) ≤ 2048) (h0:0 < n) (hc:w.cell? ⟨b,off + (n-1),none⟩ = some (.int .u32 x)) :
  Calls Tryz.prog 124 #[.slice (some ⟨b,off,none⟩) n cap] w fun e w' => e = .returned (.bool (x != 0)) ∧ w' = w:=by
 have h1:((n:Int) == 0) = false:=by simp; omega
 have h2:((n:Int) - 1).toNat = n - 1:=by omega
 go_enter Tryz.func124,Tryz.ntmps124
 go_wp2
 go_ret
 exact ⟨rfl,rfl⟩

theorem wmaynat_any (a:Option Addr) (n c:Nat) (xs:List Nat) (w:World) (h:Sl w a n c xs) :
  Calls Tryz.prog 124 #[.slice a n c] w fun e w' => e = .returned (.bool (MayL xs)) ∧ w' = w:=by
 have hl:=h.len
 by_cases hlong:2048 < n
 ·refine (wmay_long a n c w hlong (Nat.le_trans h.le h.cap)).mono ?_
  rintro e w' ⟨rfl,rfl⟩
  have:MayL xs = false:=by simp [MayL]; omega
  rw [this]; exact ⟨rfl,rfl⟩
 ·rcases h.cells with h0 | ⟨b,off,rfl,hc⟩
  ·subst h0
   simp at hl
   subst hl
   refine (wmay_nil a c w).mono ?_
   rintro e w' ⟨rfl,rfl⟩
   exact ⟨rfl,rfl⟩
  ·by_cases hz:n = 0
   ·subst hz
    have:xs = []:=List.eq_nil_of_length_eq_zero hl
    subst this
    refine (wmay_nil _ c w).mono ?_
    rintro e w' ⟨rfl,rfl⟩
    exact ⟨rfl,rfl⟩
   ·have:=hc (n - 1) (by omega)
    refine (wmay_some b off n c _ w (by omega) (by omega) this).mono ?_
    rintro e w' ⟨rfl,rfl⟩
    refine ⟨?_,rfl⟩
    have e1:xs.isEmpty = false:=by cases xs with | nil => simp at hl; omega | cons => rfl
    have e2:MayL xs = (((xs.getD (n - 1) 0:Nat):Int) != 0):=by
     simp only [MayL,hl,e1,Bool.false_or]
     rw [show decide (n ≤ 2048) = true from by simp; omega]
     simp only [Bool.true_and]
     rw [Bool.eq_iff_iff,bne_iff_ne,bne_iff_ne]
     omega
    rw [e2]

theorem limbs_one_iff {G:Nat} {m:Nat} (hl:(limbs G).length = m):(m = 1 ∧ (limbs G).getD 0 0 = 1) ↔ G = 1:=by
 constructor
 ·rintro ⟨h1,h2⟩
  have e:limbs G = [1]:=by
   match hh:limbs G,(by rw [hl,h1]:(limbs G).length = 1) with
   | [x],_ => rw [hh] at h2; simp at h2; rw [h2]
  have:=limbs_v G
  rw [e] at this
  simpa [val] using this.symm
 ·rintro rfl
  have e:limbs 1 = [1]:=rfl
  rw [e] at hl ⊢
  exact ⟨hl.symm,rfl⟩

set_option maxHeartbeats 8000000 in
theorem wmay_any (neg:Bool) (a1 a2:Option Addr) (n1 c1 n2 c2:Nat) (xs ys:List Nat) (w:World) (h1:Sl w a1 n1 c1 xs) (h2:Sl w a2 n2 c2 ys) (ox:Ok xs) (oy:Ok ys) :
  Calls Tryz.prog 66 #[ratV neg a1 n1 c1 a2 n2 c2] w fun e w' => e = .returned (.bool (MayR neg xs ys)) ∧ Below w.heap.size w w':=by
 have bx:=Box.made w neg a1 n1 c1 a2 n2 c2
 obtain ⟨wa,hwa⟩:∃ wa,ratBox w neg a1 n1 c1 a2 n2 c2 = wa:=⟨_,rfl⟩
 rw [hwa] at bx
 unfold ratBox at hwa
 have bel:=bx.bel
 have d0:=bx.d0
 have d1:=bx.d1
 have d2:=bx.d2
 have K1:=wmaynat_any a1 n1 c1 xs wa (h1.below bel)
 have K2:=wmaynat_any a2 n2 c2 ys wa (h2.below bel)
 have hl1:=h1.len
 have hl2:=h2.len
 have HB:=Hd bel
 cases m1:MayL xs
 ·rw [m1] at K1
  have K1':=Hd K1
  have HR:=Hd (show MayR neg xs ys = false from by simp [MayR,m1])
  clear K1 K2 h1 h2 m1 bel bx
  unfold ratV
  go_enter Tryz.func66,Tryz.ntmps66
  go_wp2_with fail
  refine (Uh K1').mono ?_
  rintro _ _ ⟨rfl,hw⟩
  obtain rfl:=hw.symm
  clear hw
  go_wp2_with fail
  go_ret
  rw [Uh HR]
  exact ⟨rfl,Uh HB⟩
 ·rw [m1] at K1
  cases m2:MayL ys
  ·rw [m2] at K2
   have K1':=Hd K1
   have K2':=Hd K2
   have HR:=Hd (show MayR neg xs ys = false from by simp [MayR,m2])
   clear K1 K2 h1 h2 m1 m2 bel bx
   unfold ratV
   go_enter Tryz.func66,Tryz.ntmps66
   go_wp2_with fail
   refine (Uh K1').mono ?_
   rintro _ _ ⟨rfl,hw⟩
   obtain rfl:=hw.symm
   clear hw
   go_wp2_with fail
   refine (Uh K2').mono ?_
   rintro _ _ ⟨rfl,hw⟩
   obtain rfl:=hw.symm
   clear hw
   go_wp2_with fail
   go_ret
   rw [Uh HR]
   exact ⟨rfl,Uh HB⟩
  ·rw [m2] at K2
   have K1':=Hd K1
   have K2':=Hd K2
   by_cases hy:ys = []
   ·have HR:=Hd (show MayR neg xs ys = false from by simp [MayR,hy])
    have hn2:n2 = 0:=by rw [← hl2,hy]; rfl
    subst hn2
    clear K1 K2 h1 h2 m1 m2 bel bx
    unfold ratV
    go_enter Tryz.func66,Tryz.ntmps66
    go_wp2_with fail
    refine (Uh K1').mono ?_
    rintro _ _ ⟨rfl,hw⟩
    obtain rfl:=hw.symm
    clear hw
    go_wp2_with fail
    refine (Uh K2').mono ?_
    rintro _ _ ⟨rfl,hw⟩
    obtain rfl:=hw.symm
    clear hw
    go_wp2_with fail
    go_ret
    rw [Uh HR]
    exact ⟨rfl,Uh HB⟩
   ·have hn2:0 < n2:=by rw [← hl2]; exact List.length_pos_iff.2 hy
    have t1:((n2:Int) == 0) = false:=by simp; omega
    have t2:¬ (n2:Int) = 0:=by omega
    obtain ⟨b2,o2,e2,hc2⟩:=h2.cells.resolve_left hy
    have g2:=(h2.below bel).cells.resolve_left hy
    subst e2
    obtain ⟨b2',o2',e2',g2⟩:=g2
    cases e2'
    have g2:=g2 0 (by omega)
    rw [Nat.add_zero] at g2
    by_cases hx:xs = []
    ·have hn1:n1 = 0:=by rw [← hl1,hx]; rfl
     have hiff:=limbs_one_iff (G:=val ys) (m:=n2) (by rw [limbs_val oy (MayL.norm m2)]; exact hl2)
     rw [limbs_val oy (MayL.norm m2)] at hiff
     have hM0:MayR true xs ys = false:=by simp [MayR,hx]
     have hM1:val ys = 1 → MayR false xs ys = true:=fun e => by
      have e1:Nat.gcd (val xs) (val ys) = 1:=by rw [hx,e]; rfl
      simp [MayR,m1,m2,hy,e1]
     have hM2:val ys ≠ 1 → MayR false xs ys = false:=fun e => by
      have e1:¬ Nat.gcd (val xs) (val ys) = 1:=by rw [hx]; simpa [val] using e
      simp [MayR,e1]
     subst hn1
     have by0:=oy.getD 0
     generalize ys.getD 0 0 = y0 at *
     clear h1 h2 K1 K2 bx bel hc2 hx
     cases neg
     ·by_cases hl:n2 = 1
      ·have t3:((n2:Int) == 1) = true:=by simp; omega
       by_cases h0:y0 = 1
       ·have t4:((y0:Int) == 1) = true:=by simp; omega
        have HR:=Hd (show MayR false xs ys = true from by exact hM1 (hiff.1 ⟨hl,h0⟩))
        clear hM0 hM1 hM2 hiff m1 m2 hl h0
        unfold ratV
        go_enter Tryz.func66,Tryz.ntmps66
        go_wp2_with fail
        refine (Uh K1').mono ?_
        rintro _ _ ⟨rfl,hw⟩
        obtain rfl:=hw.symm
        clear hw
        go_wp2_with fail
        refine (Uh K2').mono ?_
        rintro _ _ ⟨rfl,hw⟩
        obtain rfl:=hw.symm
        clear hw
        go_wp2_with fail
        go_ret
        rw [Uh HR]
        exact ⟨rfl,Uh HB⟩
       ·have t4:((y0:Int) == 1) = false:=by simp; omega
        have HR:=Hd (show MayR false xs ys = false from hM2 (fun e => h0 (hiff.2 e).2))
        clear hM0 hM1 hM2 hiff m1 m2 hl h0
        unfold ratV
        go_enter Tryz.func66,Tryz.ntmps66
        go_wp2_with fail
        refine (Uh K1').mono ?_
        rintro _ _ ⟨rfl,hw⟩
        obtain rfl:=hw.symm
        clear hw
        go_wp2_with fail
        refine (Uh K2').mono ?_
        rintro _ _ ⟨rfl,hw⟩
        obtain rfl:=hw.symm
        clear hw
        go_wp2_with fail
        go_ret
        rw [Uh HR]
        exact ⟨rfl,Uh HB⟩
      ·have t3:((n2:Int) == 1) = false:=by simp; omega
       have HR:=Hd (show MayR false xs ys = false from hM2 (fun e => hl (hiff.2 e).1))
       clear hM0 hM1 hM2 hiff m1 m2 hl
       unfold ratV
       go_enter Tryz.func66,Tryz.ntmps66
       go_wp2_with fail
       refine (Uh K1').mono ?_
       rintro _ _ ⟨rfl,hw⟩
       obtain rfl:=hw.symm
       clear hw
       go_wp2_with fail
       refine (Uh K2').mono ?_
       rintro _ _ ⟨rfl,hw⟩
       obtain rfl:=hw.symm
       clear hw
       go_wp2_with fail
       go_ret
       rw [Uh HR]
       exact ⟨rfl,Uh HB⟩
     ·have HR:=Hd (show MayR true xs ys = false from hM0)
      clear hM0 hM1 hM2 hiff m1 m2
      unfold ratV
      go_enter Tryz.func66,Tryz.ntmps66
      go_wp2_with fail
      refine (Uh K1').mono ?_
      rintro _ _ ⟨rfl,hw⟩
      obtain rfl:=hw.symm
      clear hw
      go_wp2_with fail
      refine (Uh K2').mono ?_
      rintro _ _ ⟨rfl,hw⟩
      obtain rfl:=hw.symm
      clear hw
      go_wp2_with fail
      go_ret
      rw [Uh HR]
      exact ⟨rfl,Uh HB⟩
    ·have hn1:0 < n1:=by rw [← hl1]; exact List.length_pos_iff.2 hx
     have t5:((n1:Int) == 0) = false:=by simp; omega
     have hb1:n1 ≤ 10000000:=by have:=MayL.len m1; omega
     have hb2:n2 ≤ 10000000:=by have:=MayL.len m2; omega
     have K:=wgcd_any a1 _ n1 c1 n2 c2 xs ys wa (h1.below bel) (h2.below bel) ox oy (MayL.norm m1) (MayL.norm m2) hx hy hb1 hb2
     obtain ⟨G,hG⟩:∃ G,Nat.gcd (val xs) (val ys) = G:=⟨_,rfl⟩
     have hM1:G = 1 → MayR neg xs ys = true:=fun e => by
      have e1:Nat.gcd (val xs) (val ys) = 1:=hG.trans e
      simp [MayR,m1,m2,hy,hx,e1]
     have hM2:G ≠ 1 → MayR neg xs ys = false:=fun e => by
      have e1:¬ Nat.gcd (val xs) (val ys) = 1:=fun h => e (hG.symm.trans h)
      simp [MayR,e1]
     rw [hG] at K
     have HG:=Hd (show 0 < G by rw [← hG]; exact Nat.gcd_pos_of_pos_left _ (Nat.pos_of_ne_zero (val_ne (MayL.norm m1) hx)))
     have HK:=Hd K
     have HM:=Hd (And.intro hM1 hM2)
     clear K hM1 hM2 hG h1 h2 K1 K2 bx bel hc2 hx hy m1 m2
     unfold ratV
     go_enter Tryz.func66,Tryz.ntmps66
     go_wp2_with fail
     refine (Uh K1').mono ?_
     rintro _ _ ⟨rfl,hw⟩
     obtain rfl:=hw.symm
     clear hw
     go_wp2_with fail
     refine (Uh K2').mono ?_
     rintro _ _ ⟨rfl,hw⟩
     obtain rfl:=hw.symm
     clear hw
     go_wp2_with fail
     refine (Uh HK).mono ?_
     rintro _ w1 ⟨a3,m3,c3,rfl,s3,n3,hnl,b3⟩
     have hm3:0 < m3:=by
      rw [← s3.len]
      refine List.length_pos_iff.2 (fun e => ?_)
      have:=limbs_eq_nil.1 e
      have:=Uh HG
      omega
     obtain ⟨b4,o4,rfl,hc4⟩:=s3.cells.resolve_left (fun e => by have:=s3.len; rw [e] at this; simp at this; omega)
     have g4:=hc4 0 (by rw [s3.len]; exact hm3)
     rw [Nat.add_zero] at g4
     have hiff:=limbs_one_iff (G:=G) s3.len
     have bg0:=(limbs_ok G).getD 0
     have HB1:=Hd ((Uh HB).trans (b3.mono (Uh HB).size))
     generalize (limbs G).getD 0 0 = y0 at *
     clear s3 n3 hnl b3 hc4 HK
     by_cases hl:m3 = 1
     ·have t6:((m3:Int) == 1) = true:=by simp; omega
      by_cases h0:y0 = 1
      ·have t7:((y0:Int) == 1) = true:=by simp; omega
       have HR:=Hd (show MayR neg xs ys = true from (Uh HM).1 (hiff.1 ⟨hl,h0⟩))
       clear hl h0 hiff
       go_wp2_with fail
       go_ret
       rw [Uh HR]
       exact ⟨rfl,Uh HB1⟩
      ·have t7:((y0:Int) == 1) = false:=by simp; omega
       have HR:=Hd (show MayR neg xs ys = false from (Uh HM).2 (fun e => h0 (hiff.2 e).2))
       clear hl h0 hiff
       go_wp2_with fail
       go_ret
       rw [Uh HR]
       exact ⟨rfl,Uh HB1⟩
     ·have t6:((m3:Int) == 1) = false:=by simp; omega
      have HR:=Hd (show MayR neg xs ys = false from (Uh HM).2 (fun e => hl (hiff.2 e).1))
      clear hl hiff
      go_wp2_with fail
      go_ret
      rw [Uh HR]
      exact ⟨rfl,Uh HB1⟩
structure Nq where
 g:Bool
 a:Option Addr
 n:Nat
 c:Nat
 x:List Nat
 b:Option Addr
 m:Nat
 d:Nat
 y:List Nat
structure SlQ (w:World) (a:Option Addr) (n c:Nat) (ps:List Nq):Prop where
 len:ps.length = n
 le:n ≤ c
 cells:ps = [] ∨ ∃ b off,a = some ⟨b,off,none⟩ ∧ ∀ i p,ps[i]? = some p → w.cell? ⟨b,off + i * 3,none⟩ = some (.bool p.g) ∧ w.cell? ⟨b,off + i * 3 + 1,none⟩ = some (.slice p.a p.n p.c) ∧ w.cell? ⟨b,off + i * 3 + 2,none⟩ = some (.slice p.b p.m p.d)
 each:∀ p ∈ ps,(Sl w p.a p.n p.c p.x ∧ Sl w p.b p.m p.d p.y) ∧ Ok p.x ∧ Ok p.y
theorem SlQ.below {w w':World} {a:Option Addr} {n c:Nat} {ps:List Nq} (h:SlQ w a n c ps) (k:Below w.heap.size w w'):SlQ w' a n c ps:=by
 refine ⟨h.len,h.le,?_,fun p hp => ⟨⟨(h.each p hp).1.1.below k,(h.each p hp).1.2.below k⟩,(h.each p hp).2⟩⟩
 rcases h.cells with e | ⟨b,off,e,hc⟩
 ·exact .inl e
 ·refine .inr ⟨b,off,e,fun i p hp => ?_⟩
  obtain ⟨h1,h2,h3⟩:=hc i p hp
  exact ⟨(ck k h1),(ck k h2),(ck k h3)⟩
theorem SlQ.at' {w:World} {a:Option Addr} {n c:Nat} {ps:List Nq} (h:SlQ w a n c ps) {i:Nat} (hi:i < n) :
  ∃ b off p,a = some ⟨b,off,none⟩ ∧ ps[i]? = some p ∧ (w.cell? ⟨b,off + i * 3,none⟩ = some (.bool p.g) ∧ w.cell? ⟨b,off + i * 3 + 1,none⟩ = some (.slice p.a p.n p.c) ∧ w.cell? ⟨b,off + i * 3 + 2,none⟩ = some (.slice p.b p.m p.d)) ∧ (Sl w p.a p.n p.c p.x ∧ Sl w p.b p.m p.d p.y) ∧ Ok p.x ∧ Ok p.y:=by
 have hl:=h.len
 have hi':i < ps.length:=by omega
 have hp:ps[i]? = some ps[i]:=List.getElem?_eq_getElem hi'
 rcases h.cells with e | ⟨b,off,e,hc⟩
 ·rw [e] at hl; simp at hl; omega
 ·exact ⟨b,off,ps[i],e,hp,hc i _ hp,h.each _ (List.getElem_mem hi')⟩
def mayQ (ps:List Nq):Bool:=ps.all (fun p => MayR p.g p.x p.y)
theorem mayQ_get {ps:List Nq} (h:mayQ ps = true) {i:Nat} {p:Nq} (hp:ps[i]? = some p):MayR p.g p.x p.y = true:=by
 unfold mayQ at h
 rw [List.all_eq_true] at h
 exact h p (List.mem_of_getElem? hp)
theorem mayQ_false {ps:List Nq} {i:Nat} {p:Nq} (hp:ps[i]? = some p) (h:MayR p.g p.x p.y = false):mayQ ps = false:=by
 cases hm:mayQ ps
 ·rfl
 ·have:=mayQ_get hm hp
  rw [h] at this
  cases this
theorem mayQ_true {ps:List Nq} {n:Nat} (hl:ps.length = n) (h:∀ i p,i < n → ps[i]? = some p → MayR p.g p.x p.y = true):mayQ ps = true:=by
 unfold mayQ
 rw [List.all_eq_true]
 intro p hp
 obtain ⟨i,hi,e⟩:=List.getElem_of_mem hp
 exact h i p (by omega) (by rw [List.getElem?_eq_getElem hi,e])

set_option maxRecDepth 100000 in
set_option maxHeartbeats 8000000 in
theorem rmayAll_any (a:Option Addr) (n c:Nat) (ps:List Nq) (w:World) (h:SlQ w a n c ps) (hn:n ≤ 140737488355328) (hT:Tab64 w) :
  Calls Tryz.prog 87 #[.slice a n c] w fun e w' => e = .returned (.bool (mayQ ps)) ∧ Below w.heap.size w w':=by
 have H:=Hd h
 have HL:=Hd h.len
 have HT:=Hd hT
 clear h hT
 go_enter Tryz.func87,Tryz.ntmps87
 go_wp2_with fail
 go_loopw [6,3] (fun iv _ wr => ∃ i:Nat,i ≤ n ∧ iv = .int .i64 (i:Nat) ∧ Below w.heap.size w wr ∧ Hid (∀ j p,j < i → ps[j]? = some p → MayR p.g p.x p.y = true)) (fun iv _ _ => n - (intOf iv).toNat)
 case atStart => exact ⟨0,Nat.zero_le _,rfl,Below.refl _ _,fun j p hj => by omega⟩
 case round =>
  obtain ⟨i,hi,rfl,hbel,HA⟩:=hrel
  by_cases hlt:i < n
  ·have hlt':(i:Int) < (n:Int):=by omega
   obtain ⟨b,off,p,rfl,hp,⟨c0,c1,c2⟩,⟨hs1,hs2⟩,o1,o2⟩:=((Uh H).below hbel).at' hlt
   have KM:=ratMay_any p.g p.a p.b p.n p.c p.m p.d p.x p.y wr hs1 hs2 o1 o2 ((Uh HT).below hbel)
   unfold ratV at KM
   have HP:=Hd hp
   have HB:=Hd hbel
   clear hp hbel hs1 hs2 o1 o2
   cases hm:MayR p.g p.x p.y
   ·rw [hm] at KM
    have KM':=Hd KM
    have HF:=Hd (mayQ_false (Uh HP) hm)
    clear KM hm HA HP
    go_wp2_with fail
    refine (Uh KM').mono ?_
    rintro _ wk ⟨rfl,hw⟩
    have HW:=Hd ((Uh HB).trans (hw.mono (Uh HB).size))
    clear hw
    go_wp2_with fail
    go_ret
    rw [Uh HF]
    exact ⟨rfl,Uh HW⟩
   ·rw [hm] at KM
    have KM':=Hd KM
    have HA2:=Hd (show ∀ j q,j < i + 1 → ps[j]? = some q → MayR q.g q.x q.y = true from fun j q hj hq => by
     by_cases e:j = i
     ·subst e
      rw [Uh HP] at hq
      cases hq
      exact hm
     ·exact Uh HA j q (by omega) hq)
    clear KM hm HA HP
    go_wp2_with fail
    refine (Uh KM').mono ?_
    rintro _ wk ⟨rfl,hw⟩
    have HW:=Hd ((Uh HB).trans (hw.mono (Uh HB).size))
    clear hw
    go_wp2_with fail
    exact ⟨⟨i + 1,by omega,by go_num,Uh HW,Uh HA2⟩,by simp [intOf]; omega⟩
  ·obtain rfl:i = n:=by omega
   have hlt':¬ (i:Int) < (i:Int):=by omega
   have HF:=Hd (mayQ_true (Uh HL) (Uh HA))
   have HB:=Hd hbel
   clear HA hbel
   go_wp2_with fail
   go_ret
   rw [Uh HF]
   exact ⟨rfl,Uh HB⟩

set_option maxRecDepth 100000 in
set_option maxHeartbeats 8000000 in
theorem wmayAll_any (a:Option Addr) (n c:Nat) (ps:List Nq) (w:World) (h:SlQ w a n c ps) (hn:n ≤ 140737488355328) :
  Calls Tryz.prog 89 #[.slice a n c] w fun e w' => e = .returned (.bool (mayQ ps)) ∧ Below w.heap.size w w':=by
 have H:=Hd h
 have HL:=Hd h.len
 clear h
 go_enter Tryz.func89,Tryz.ntmps89
 go_wp2_with fail
 go_loopw [3] (fun iv wr => ∃ i:Nat,i ≤ n ∧ iv = .int .i64 (i:Nat) ∧ Below w.heap.size w wr ∧ Hid (∀ j p,j < i → ps[j]? = some p → MayR p.g p.x p.y = true)) (fun iv _ => n - (intOf iv).toNat)
 case atStart => exact ⟨0,Nat.zero_le _,rfl,Below.refl _ _,fun j p hj => by omega⟩
 case round =>
  obtain ⟨i,hi,rfl,hbel,HA⟩:=hrel
  by_cases hlt:i < n
  ·have hlt':(i:Int) < (n:Int):=by omega
   obtain ⟨b,off,p,rfl,hp,⟨c0,c1,c2⟩,⟨hs1,hs2⟩,o1,o2⟩:=((Uh H).below hbel).at' hlt
   have KM:=wmay_any p.g p.a p.b p.n p.c p.m p.d p.x p.y wr hs1 hs2 o1 o2
   unfold ratV at KM
   have HP:=Hd hp
   have HB:=Hd hbel
   clear hp hbel hs1 hs2 o1 o2
   cases hm:MayR p.g p.x p.y
   ·rw [hm] at KM
    have KM':=Hd KM
    have HF:=Hd (mayQ_false (Uh HP) hm)
    clear KM hm HA HP
    go_wp2_with fail
    refine (Uh KM').mono ?_
    rintro _ wk ⟨rfl,hw⟩
    have HW:=Hd ((Uh HB).trans (hw.mono (Uh HB).size))
    clear hw
    go_wp2_with fail
    go_ret
    rw [Uh HF]
    exact ⟨rfl,Uh HW⟩
   ·rw [hm] at KM
    have KM':=Hd KM
    have HA2:=Hd (show ∀ j q,j < i + 1 → ps[j]? = some q → MayR q.g q.x q.y = true from fun j q hj hq => by
     by_cases e:j = i
     ·subst e
      rw [Uh HP] at hq
      cases hq
      exact hm
     ·exact Uh HA j q (by omega) hq)
    clear KM hm HA HP
    go_wp2_with fail
    refine (Uh KM').mono ?_
    rintro _ wk ⟨rfl,hw⟩
    have HW:=Hd ((Uh HB).trans (hw.mono (Uh HB).size))
    clear hw
    go_wp2_with fail
    exact ⟨⟨i + 1,by omega,by go_num,Uh HW,Uh HA2⟩,by simp [intOf]; omega⟩
  ·obtain rfl:i = n:=by omega
   have hlt':¬ (i:Int) < (i:Int):=by omega
   have HF:=Hd (mayQ_true (Uh HL) (Uh HA))
   have HB:=Hd hbel
   clear HA hbel
   go_wp2_with fail
   go_ret
   rw [Uh HF]
   exact ⟨rfl,Uh HB⟩
theorem newR_of {w wk wf:World} {R:Nat} {aN aD:Option Addr} {mN cN mD cD:Nat} {xs ys:List Nat} (hR:w.heap.size ≤ R) (hRk:R < wk.heap.size) (bel:Below w.heap.size w wk) (sN:Sl wk aN mN cN xs) (nN:NewAt (R + 1) aN) (sD:Sl wk aD mD cD ys) (nD:NewAt (R + 1) aD) (c4:Chg (fun j => j = R) wk wf) (g:Bool) :
  NewR w wf g xs ys (ratV g aN mN cN aD mD cD) :=
 ⟨aN,mN,cN,aD,mD,cD,rfl,sN.chg c4 (fun x hx _ h => by have:=nN x hx; omega),sD.chg c4 (fun x hx _ h => by have:=nD x hx; omega),fun x hx => by have:=nN x hx; omega,fun x hx => by have:=nD x hx; omega,bel.trans (c4.below bel.size (fun k hk => by omega))⟩

set_option maxHeartbeats 1000000 in
theorem wzero_any (w:World):Calls Tryz.prog 60 #[] w fun e w' => ∃ v,e = .returned v ∧ NewR w w' false [] [1] v:=by
 obtain ⟨wb,hwb⟩:∃ wb,w.alloc (.cells #[.bool false,.slice none 0 0,.slice none 0 0] 25) = wb:=⟨_,rfl⟩
 have hbb:Below w.heap.size w wb:=by rw [← hwb]; exact bAl
 have hO:Out wb w.heap.size:=by rw [← hwb]; exact Out.made w
 have hz:wb.heap.size = w.heap.size + 1:=by rw [← hwb]; simp
 obtain ⟨wc,hwc⟩:∃ wc,wb.alloc (.cells #[.int .u32 1] 66) = wc:=⟨_,rfl⟩
 have hbc:Below wb.heap.size wb wc:=by rw [← hwc]; exact bAl
 have hs:Sl wc (some ⟨wb.heap.size,0,none⟩) 1 1 [1]:=by rw [← hwc]; exact one_sl wb 1 66
 have hO3:=hO.keep hbc
 obtain ⟨x0,q0⟩:=hO3.cells 0 (by decide)
 obtain ⟨x1,q1⟩:=hO3.cells 1 (by decide)
 obtain ⟨x2,q2⟩:=hO3.cells 2 (by decide)
 have r0:=hO3.fz 0 (by decide)
 have r1:=hO3.fz 1 (by decide)
 have r2:=hO3.fz 2 (by decide)
 have H4:=Hd (three_set wc w.heap.size (.bool false) (.slice none 0 0) (.slice (some ⟨wb.heap.size,0,none⟩) 1 1) hO3.cells)
 have HF:=Hd (fun wf => newR_of (w:=w) (wk:=wc) (wf:=wf) (R:=w.heap.size) (Nat.le_refl _) hO3.lt (hbb.trans (hbc.mono hbb.size)) (sl_nil wc) (newAt_nil _) hs (fun x hx => by cases hx; simp; omega))
 have HZ:=Hd hz
 clear hbb hO hbc hs hO3 hz
 go_enter Tryz.func60,Tryz.ntmps60
 go_wp2_with fail
 obtain ⟨p0,p1,p2,c4⟩:=Uh H4
 generalize ((wc.setCell ⟨w.heap.size,0,none⟩ (.bool false)).setCell ⟨w.heap.size,1,none⟩ (.slice none 0 0)).setCell ⟨w.heap.size,2,none⟩ (.slice (some ⟨wb.heap.size,0,none⟩) 1 1) = wf at *
 refine bodyPost_ret (by simp [results,Tryz.results60,go_sem,p0,p1,p2]; try rfl) rfl ?_
 exact ⟨_,rfl,Uh HF wf c4 false⟩
end Go.Proofs.YtgfpfjghdbcihaaGreatDoor
