/- Ryh -/
import Derived.Test.YtgfpfjghdbcihaaGreatDoorRyg
import Derived.Test.YtgfpfjghdbcihaaGreatDoorRy9
import Derived.Test.YtgfpfjghdbcihaaGreatDoorWr4
import Derived.Test.YtgfpfjghdbcihaaGreatDoorWrf
import Derived.Test.YtgfpfjghdbcihaaGreatDoorRu5
import Derived.Deep.RegionHeld3
namespace Go.Proofs.YtgfpfjghdbcihaaGreatDoor
open Go.RowKit Go.Deep
set_option linter.unusedVariables false
theorem okT_is {i:Nat} {p:Nq} (hm:MayR p.g p.x p.y = true):okT i p = (decide (p.y = [1]) && (decide (i = 0) || !decide (SignF p.g p.x p.y < 1))):=by
 unfold okT
 rw [signF_lt hm]
 cases p.g <;> simp
theorem sgn_range {g:Bool} {x y:List Nat}:-1 ≤ SignF g x y ∧ SignF g x y ≤ 1:=by
 unfold SignF signR
 split
 ·split
  ·omega
  ·split <;> omega
 ·omega

theorem tmQ_all {ps:List Nq} {i:Nat} {p:Nq} (ht:tmQ ps = true) (hp:ps[i]? = some p):okT i p = true:=by
 cases h:okT i p
 ·rw [tmQ_false hp h] at ht; cases ht
 ·rfl
theorem ft_last {ps:List Nq} {l:Nat} {p:Nq} (hl:ps.length = l + 1) (hp:ps[l]? = some p):ps.drop l = [p]:=by
 obtain ⟨hi,rfl⟩:=List.getElem?_eq_some_iff.1 hp
 rw [List.drop_eq_getElem_cons hi,List.drop_eq_nil_of_le (by omega)]
theorem okT_pos {i:Nat} {p:Nq} (hi:0 < i) (h:okT i p = true):p.x ≠ []:=by
 unfold okT at h
 simp at h
 rcases h.2 with e | e
 ·omega
 ·exact e.2
theorem fwX_start {w W:World} {ps:List Nq} {l:Nat} {p:Nq} {A:Addr} (hl:ps.length = l + 1) (hp:ps[l]? = some p) (ox:Ok p.x) (hm:MayR p.g p.x p.y = true) (hx:p.x ≠ []) (sx:Sl W p.a p.n p.c p.x) (s1:Sl W (some A) 1 1 [1]) (hb:Below w.heap.size w W):FwX w W ps l p.a p.n p.c (some A) 1 1:=by
 have hd:=ft_last hl hp
 obtain ⟨kx,_,_,_,_⟩:=MayR.parts hm
 have hv:limbs (val p.x) = p.x:=limbs_val ox (MayL.norm kx)
 have e1:(ftV (tmV (ps.drop l))).1 = val p.x:=by rw [hd]; show val p.x * 1 + 0 = _; omega
 have e2:(ftV (tmV (ps.drop l))).2 = 1:=by rw [hd]; rfl
 refine ⟨by rw [e1,hv]; exact sx,by rw [e2]; exact s1,sx.nilc hx,(fun e => by cases e),?_,hb⟩
 rw [hd]
 show (false || bigN (val p.x * 1 + 0)) = false
 rw [show val p.x * 1 + 0 = val p.x by omega]
 have:=MayL.len kx
 unfold bigN
 simp [hv]
 omega
theorem limbs_mul_len {x:List Nat} (ox:Ok x) (v:Nat):(limbs (val x * v)).length ≤ x.length + (limbs v).length:=by
 refine rep_len_le (limbs_rep _) ?_
 rw [Nat.pow_add]
 have h1:=val_lt ox
 have h2:=limbs_lt v
 exact Nat.mul_lt_mul_of_lt_of_lt h1 h2
set_option maxRecDepth 100000 in
set_option maxHeartbeats 8000000 in
theorem wfromTerms_no (a:Option Addr) (n c:Nat) (ps:List Nq) (w:World) (h:SlQ w a n c ps) (hm:mayQ ps = true) (ht:tmQ ps = false) (h0:0 < n) (h1:n ≤ 1024) :
  Calls Tryz.prog 45 #[.slice a n c] w fun e w' => ResF w w' ((false,[],[]),1) e:=by
 obtain ⟨wo,hwo⟩:∃ x,w.alloc (.cells #[.bool false,.slice none 0 0,.slice none 0 0] 25) = x:=⟨_,rfl⟩
 have hbo:Below w.heap.size w wo:=by rw [← hwo]; exact bAl
 have hO:=Out.made w
 rw [hwo] at hO
 have KA:=wmayAll_any a n c ps wo (h.below hbo) (by omega)
 rw [hm] at KA
 have HKA:=Hd KA
 have H:=Hd h
 have HL:=Hd h.len
 have HM:=Hd hm
 have HTm:=Hd ht
 have HO:=Hd (And.intro hO hbo)
 have t0:((n:Int) == 0) = false:=by simp; omega
 have t2:¬ (1024:Int) < (n:Int):=by omega
 have t1:decide ((1024:Int) < (n:Int)) = false:=decide_eq_false t2
 clear KA h hm ht hO hbo
 unfold ResF
 dsimp only
 go_enter Tryz.func45,Tryz.ntmps45
 go_wp2_with fail
 refine (Uh HKA).mono ?_
 rintro _ w1 ⟨rfl,b1⟩
 have HB1:=Hd ((Uh HO).2.trans (b1.mono (Uh HO).2.size))
 have HO1:=Hd ((Uh HO).1.keep b1)
 clear b1 HKA HO
 go_wp2_with fail
 go_loopw [4] (fun iv wr => ∃ i:Nat,i ≤ n ∧ iv = .int .i64 (i:Nat) ∧ Hid (Below w.heap.size w wr) ∧ Hid (Out wr w.heap.size) ∧ Hid (∀ j p,j < i → ps[j]? = some p → okT j p = true)) (fun iv _ => n - (intOf iv).toNat)
 case atStart => exact ⟨0,Nat.zero_le _,rfl,Uh HB1,Uh HO1,fun j p hj => by omega⟩
 case round =>
  clear HB1 HO1
  obtain ⟨i,hi,rfl,HB,HO,HA⟩:=hrel
  by_cases hlt:i < n
  ·have hlt':(i:Int) < (n:Int):=by omega
   obtain ⟨b,off,p,rfl,hp,⟨c0,c1,c2⟩,⟨hs1,hs2⟩,o1,o2⟩:=((Uh H).below (Uh HB)).at' hlt
   have hpm:=mayQ_get (Uh HM) hp
   have hok:=okT_is (i:=i) hpm
   have KO:=fun (W:World) (hb:Below wr.heap.size wr W) => wisWhole_any p.g p.a p.b p.n p.c p.m p.d p.y W (hs2.below hb) o2
   have KS:=fun (W:World) (hb:Below wr.heap.size wr W) => wSign_any p.g p.a p.b p.n p.c p.m p.d p.x p.y W (hs1.below hb) (hs2.below hb) o1 o2
   unfold ratV at KO KS
   have HP:=Hd hp
   have hsr:=sgn_range (g:=p.g) (x:=p.x) (y:=p.y)
   obtain ⟨SV,hSV⟩:∃ s,SignF p.g p.x p.y = s:=⟨_,rfl⟩
   rw [hSV] at KS hok hsr
   obtain ⟨hsl,hsh⟩:=hsr
   have HKS:=Hd KS
   clear KS hs1 hs2 o1 o2 hp hpm hSV
   by_cases hy:p.y = [1]
   ·rw [decide_eq_true hy] at KO hok
    have HKO:=Hd KO
    clear KO hy
    by_cases hi0:i = 0
    ·have ti:¬ (0:Int) < (i:Int):=by omega
     have HA2:=Hd (show ∀ j q,j < i + 1 → ps[j]? = some q → okT j q = true from fun j q hj hq => by
      by_cases e:j = i
      ·subst e
       rw [Uh HP] at hq
       cases hq
       rw [hok]
       simp [hi0]
      ·exact Uh HA j q (by omega) hq)
     clear hi0 hok
     go_wp2_with fail
     refine (Uh HKO _ (Below.refl _ _)).mono ?_
     rintro _ w1 ⟨rfl,b1⟩
     have HB1:=Hd ((Uh HB).trans (b1.mono (Uh HB).size))
     have HO1:=Hd ((Uh HO).keep b1)
     have HB1r:=Hd b1
     have d0:=(ck b1 c0)
     have d1:=(ck b1 c1)
     have d2:=(ck b1 c2)
     clear b1
     go_wp2_with fail
     exact ⟨⟨i + 1,by omega,by go_num,Uh HB1,Uh HO1,Uh HA2⟩,by simp [intOf]; omega⟩
    ·have ti:(0:Int) < (i:Int):=by omega
     by_cases hs:SV < 1
     ·have ts:decide (SV < 1) = true:=decide_eq_true hs
      have HF:=Hd (tmQ_false (Uh HP) (show okT i p = false by rw [hok,ts]; simp [hi0]))
      clear HA HP hi0 hok
      go_wp2_with fail
      refine (Uh HKO _ (Below.refl _ _)).mono ?_
      rintro _ w1 ⟨rfl,b1⟩
      have HB1:=Hd ((Uh HB).trans (b1.mono (Uh HB).size))
      have HO1:=Hd ((Uh HO).keep b1)
      have HB1r:=Hd b1
      have d0:=(ck b1 c0)
      have d1:=(ck b1 c1)
      have d2:=(ck b1 c2)
      clear b1
      go_wp2_with fail
      refine (Uh HKS _ (Uh HB1r)).mono ?_
      rintro _ w2 ⟨rfl,b2⟩
      have HB2:=Hd ((Uh HB1).trans (b2.mono (Uh HB1).size))
      have HO2:=Hd ((Uh HO1).keep b2)
      clear b2
      have hOo:=(Uh HO2)
      obtain ⟨j0,u0⟩:=hOo.cells 0 (by decide)
      obtain ⟨j1,u1⟩:=hOo.cells 1 (by decide)
      obtain ⟨j2,u2⟩:=hOo.cells 2 (by decide)
      have v0:=hOo.fz 0 (by decide)
      have v1:=hOo.fz 1 (by decide)
      have v2:=hOo.fz 2 (by decide)
      have HR:=Hd (And.intro (three_set w2 w.heap.size (.bool false) (.slice none 0 0) (.slice none 0 0) hOo.cells) (ret_Q (w:=w) (gy:=false) hOo (sl_nil _) (sl_nil _) (newAt_nil _) (newAt_nil _) (Uh HB2) (Nat.le_refl _)))
      clear hOo
      go_wp2_with fail
      obtain ⟨⟨t0_,t1_,t2_,cc_⟩,hR⟩:=Uh HR
      generalize ((w2.setCell ⟨w.heap.size,0,none⟩ (.bool false)).setCell ⟨w.heap.size,1,none⟩ (.slice none 0 0)).setCell ⟨w.heap.size,2,none⟩ (.slice none 0 0) = wf at *
      refine bodyPost_ret (by simp [results,Tryz.results45,go_sem,t0_,t1_,t2_]; try rfl) rfl ?_
      exact ⟨_,rfl,hR⟩
     ·have ts:decide (SV < 1) = false:=decide_eq_false hs
      have HA2:=Hd (show ∀ j q,j < i + 1 → ps[j]? = some q → okT j q = true from fun j q hj hq => by
       by_cases e:j = i
       ·subst e
        rw [Uh HP] at hq
        cases hq
        rw [hok]
        simp [ts]
       ·exact Uh HA j q (by omega) hq)
      clear hi0 hok
      go_wp2_with fail
      refine (Uh HKO _ (Below.refl _ _)).mono ?_
      rintro _ w1 ⟨rfl,b1⟩
      have HB1:=Hd ((Uh HB).trans (b1.mono (Uh HB).size))
      have HO1:=Hd ((Uh HO).keep b1)
      have HB1r:=Hd b1
      have d0:=(ck b1 c0)
      have d1:=(ck b1 c1)
      have d2:=(ck b1 c2)
      clear b1
      go_wp2_with fail
      refine (Uh HKS _ (Uh HB1r)).mono ?_
      rintro _ w2 ⟨rfl,b2⟩
      have HB2:=Hd ((Uh HB1).trans (b2.mono (Uh HB1).size))
      have HO2:=Hd ((Uh HO1).keep b2)
      clear b2
      go_wp2_with fail
      exact ⟨⟨i + 1,by omega,by go_num,Uh HB2,Uh HO2,Uh HA2⟩,by simp [intOf]; omega⟩
   ·rw [decide_eq_false hy] at KO hok
    have HKO:=Hd KO
    clear KO HA HP hy hok
    go_wp2_with fail
    refine (Uh HKO _ (Below.refl _ _)).mono ?_
    rintro _ w1 ⟨rfl,b1⟩
    have HB1:=Hd ((Uh HB).trans (b1.mono (Uh HB).size))
    have HO1:=Hd ((Uh HO).keep b1)
    have HB1r:=Hd b1
    have d0:=(ck b1 c0)
    have d1:=(ck b1 c1)
    have d2:=(ck b1 c2)
    clear b1
    have hOo:=(Uh HO1)
    obtain ⟨j0,u0⟩:=hOo.cells 0 (by decide)
    obtain ⟨j1,u1⟩:=hOo.cells 1 (by decide)
    obtain ⟨j2,u2⟩:=hOo.cells 2 (by decide)
    have v0:=hOo.fz 0 (by decide)
    have v1:=hOo.fz 1 (by decide)
    have v2:=hOo.fz 2 (by decide)
    have HR:=Hd (And.intro (three_set w1 w.heap.size (.bool false) (.slice none 0 0) (.slice none 0 0) hOo.cells) (ret_Q (w:=w) (gy:=false) hOo (sl_nil _) (sl_nil _) (newAt_nil _) (newAt_nil _) (Uh HB1) (Nat.le_refl _)))
    clear hOo
    go_wp2_with fail
    obtain ⟨⟨t0_,t1_,t2_,cc_⟩,hR⟩:=Uh HR
    generalize ((w1.setCell ⟨w.heap.size,0,none⟩ (.bool false)).setCell ⟨w.heap.size,1,none⟩ (.slice none 0 0)).setCell ⟨w.heap.size,2,none⟩ (.slice none 0 0) = wf at *
    refine bodyPost_ret (by simp [results,Tryz.results45,go_sem,t0_,t1_,t2_]; try rfl) rfl ?_
    exact ⟨_,rfl,hR⟩
  ·exfalso
   have:=tmQ_true (Uh HL) h0 h1 (fun j p hj hp => Uh HA j p (by omega) hp)
   rw [Uh HTm] at this
   cases this
set_option maxRecDepth 100000 in
set_option maxHeartbeats 16000000 in
theorem wfromTerms_one (a:Option Addr) (n c:Nat) (p0:Nq) (r ps:List Nq) (hps:ps = p0 :: r) (w:World) (h:SlQ w a n c ps) (hm:mayQ ps = true) (ht:tmQ ps = true) (hN:n = 1) (hnil:p0.a = none → p0.c = 0) :
  Calls Tryz.prog 45 #[.slice a n c] w fun e w' => ResF w w' (FtF ps) e:=by
 have HOk:=Hd (show ∀ p ∈ ps,Ok p.x from fun p hp => (h.each p hp).2.1)
 obtain ⟨h0,h1⟩:0 < n ∧ n ≤ 1024:=by
  have h1:=(tmQ_get (hps ▸ ht)).1
  have h2:=h.len
  rw [hps] at h2
  simp at h2
  omega
 obtain ⟨wo,hwo⟩:∃ x,w.alloc (.cells #[.bool false,.slice none 0 0,.slice none 0 0] 25) = x:=⟨_,rfl⟩
 have hbo:Below w.heap.size w wo:=by rw [← hwo]; exact bAl
 have hO:=Out.made w
 rw [hwo] at hO
 have KA:=wmayAll_any a n c ps wo (h.below hbo) (by omega)
 rw [hm] at KA
 have HKA:=Hd KA
 have H:=Hd h
 have HL:=Hd h.len
 have HM:=Hd hm
 have HTm:=Hd ht
 have HO:=Hd (And.intro hO hbo)
 have t0:((n:Int) == 0) = false:=by simp; omega
 have t2:¬ (1024:Int) < (n:Int):=by omega
 have t1:decide ((1024:Int) < (n:Int)) = false:=decide_eq_false t2
 clear KA h hm ht hO hbo
 have HPS:=Hd hps
 have HN1:=Hd hN
 clear hps hN
 go_enter Tryz.func45,Tryz.ntmps45
 go_wp2_with fail
 refine (Uh HKA).mono ?_
 rintro _ w1 ⟨rfl,b1⟩
 have HB1:=Hd ((Uh HO).2.trans (b1.mono (Uh HO).2.size))
 have HO1:=Hd ((Uh HO).1.keep b1)
 clear b1 HKA HO
 go_wp2_with fail
 go_loopw [4] (fun iv wr => ∃ i:Nat,i ≤ n ∧ iv = .int .i64 (i:Nat) ∧ Hid (Below w.heap.size w wr) ∧ Hid (Out wr w.heap.size)) (fun iv _ => n - (intOf iv).toNat)
 case atStart => exact ⟨0,Nat.zero_le _,rfl,Uh HB1,Uh HO1⟩
 case round =>
  clear HB1 HO1
  obtain ⟨i,hi,rfl,HB,HO⟩:=hrel
  by_cases hlt:i < n
  ·have hlt':(i:Int) < (n:Int):=by omega
   obtain ⟨b,off,p,rfl,hp,⟨c0,c1,c2⟩,⟨hs1,hs2⟩,o1,o2⟩:=((Uh H).below (Uh HB)).at' hlt
   have hpm:=mayQ_get (Uh HM) hp
   have hok:=okT_is (i:=i) hpm
   have hto:=tmQ_all (Uh HTm) hp
   rw [hto] at hok
   have KO:=fun (W:World) (hb:Below wr.heap.size wr W) => wisWhole_any p.g p.a p.b p.n p.c p.m p.d p.y W (hs2.below hb) o2
   have KS:=fun (W:World) (hb:Below wr.heap.size wr W) => wSign_any p.g p.a p.b p.n p.c p.m p.d p.x p.y W (hs1.below hb) (hs2.below hb) o1 o2
   unfold ratV at KO KS
   have HP:=Hd hp
   have hsr:=sgn_range (g:=p.g) (x:=p.x) (y:=p.y)
   obtain ⟨SV,hSV⟩:∃ s,SignF p.g p.x p.y = s:=⟨_,rfl⟩
   rw [hSV] at KS hok hsr
   obtain ⟨hsl,hsh⟩:=hsr
   have HKS:=Hd KS
   clear KS hs1 hs2 o1 o2 hp hpm hSV
   by_cases hy:p.y = [1]
   ·rw [decide_eq_true hy] at KO hok
    have HKO:=Hd KO
    clear KO hy
    by_cases hi0:i = 0
    ·have ti:¬ (0:Int) < (i:Int):=by omega
     clear hi0 hok hto
     go_wp2_with fail
     refine (Uh HKO _ (Below.refl _ _)).mono ?_
     rintro _ w1 ⟨rfl,b1⟩
     have HB1:=Hd ((Uh HB).trans (b1.mono (Uh HB).size))
     have HO1:=Hd ((Uh HO).keep b1)
     have HB1r:=Hd b1
     have d0:=(ck b1 c0)
     have d1:=(ck b1 c1)
     have d2:=(ck b1 c2)
     clear b1
     go_wp2_with fail
     exact ⟨⟨i + 1,by omega,by go_num,Uh HB1,Uh HO1⟩,by simp [intOf]; omega⟩
    ·have ti:(0:Int) < (i:Int):=by omega
     by_cases hs:SV < 1
     ·exfalso
      simp [hs,hi0] at hok
     ·have ts:decide (SV < 1) = false:=decide_eq_false hs
      clear hi0 hok hto
      go_wp2_with fail
      refine (Uh HKO _ (Below.refl _ _)).mono ?_
      rintro _ w1 ⟨rfl,b1⟩
      have HB1:=Hd ((Uh HB).trans (b1.mono (Uh HB).size))
      have HO1:=Hd ((Uh HO).keep b1)
      have HB1r:=Hd b1
      have d0:=(ck b1 c0)
      have d1:=(ck b1 c1)
      have d2:=(ck b1 c2)
      clear b1
      go_wp2_with fail
      refine (Uh HKS _ (Uh HB1r)).mono ?_
      rintro _ w2 ⟨rfl,b2⟩
      have HB2:=Hd ((Uh HB1).trans (b2.mono (Uh HB1).size))
      have HO2:=Hd ((Uh HO1).keep b2)
      clear b2
      go_wp2_with fail
      exact ⟨⟨i + 1,by omega,by go_num,Uh HB2,Uh HO2⟩,by simp [intOf]; omega⟩
   ·exfalso
    simp [hy] at hok
  ·obtain rfl:i = n:=by omega
   have hlt2:¬ (i:Int) < (i:Int):=by omega
   obtain ⟨l,hl⟩:∃ l,l = i - 1:=⟨_,rfl⟩
   have tl:(i:Int) - 1 = (l:Int):=by omega
   have hlt:l < i:=by omega
   have HLl:=Hd hl
   clear hl
   obtain ⟨b,off,p,rfl,hp,⟨c0,c1,c2⟩,⟨hs1,hs2⟩,o1,o2⟩:=((Uh H).below (Uh HB)).at' hlt
   have hl0:(0:Int) ≤ (l:Int):=by omega
   have hl1:(l:Int) < (i:Int):=by omega
   have HP:=Hd hp
   have HX:=Hd (And.intro hs1 (And.intro o1 (mayQ_get (Uh HM) hp)))
   clear hs1 hs2 o1 o2 hp hlt2
   clear hi
   obtain ⟨wc,hwc⟩:∃ x,wr.alloc (.cells #[.int .u32 1] 66) = x:=⟨_,rfl⟩
   have hbc:Below wr.heap.size wr wc:=by rw [← hwc]; exact bAl
   have hs1:Sl wc (some ⟨wr.heap.size,0,none⟩) 1 1 [1]:=by rw [← hwc]; exact one_sl wr 1 66
   have HC:=Hd (And.intro hbc hs1)
   clear hbc hs1
   go_wp2_with fail
   have hl00:l = 0:=by have:=Uh HLl; have:=Uh HN1; omega
   rw [hl00] at c0
   simp only [Nat.zero_mul,Nat.add_zero] at c0
   have hp0:p = p0:=by have:=Uh HP; rw [hl00,Uh HPS] at this; simpa using this.symm
   have hr0:r = []:=by have h2:=Uh HL; rw [Uh HPS] at h2; simp at h2; have h3:r.length = 0:=(by have:=Uh HN1; omega); exact List.eq_nil_of_length_eq_zero h3
   have hF:FtF ps = ((p.g,p.x,[1]),0):=by
    have hm_:=Uh HM; have ht_:=Uh HTm; have hx_:=Uh HX
    rw [Uh HPS,hr0] at hm_ ht_ ⊢
    have hy1:=(tmQ_get ht_).2.1
    rw [ftF_ok hm_ ht_ rfl,hp0]
    rw [hp0,hy1] at hx_
    rw [hy1]
    exact addF_zero hx_.2.1 hx_.2.2
   have HF:=Hd hF
   have hbw:b ≠ w.heap.size:=by
    obtain ⟨b3,off3,q3,hb3,_,⟨x0,_,_⟩,_⟩:=(Uh H).at' hlt
    cases hb3
    have hx0:=World.block_lt_of_cell? _ _ x0
    exact Nat.ne_of_lt hx0
   have hbw2:=hbw.symm
   have hlx:=MayL.len (MayR.parts (Uh HX).2.2).1
   have hxl:=(Uh HX).1.len
   have HK1:=Hd (fun (W:World) (hb:Below wc.heap.size wc W) => wcopied_any p.a p.n p.c p.x W (((Uh HX).1.below (Uh HC).1).below hb) (by rw [hp0]; exact hnil) (by omega))
   have HK2:=Hd (fun (W:World) (hb:Below wc.heap.size wc W) => wcopied_any (some ⟨wr.heap.size,0,none⟩) 1 1 [1] W ((Uh HC).2.below hb) (fun e => by cases e) (by decide))
   have HOc:=Hd ((Uh HO).keep (Uh HC).1)
   have HBc:=Hd ((Uh HB).trans ((Uh HC).1.mono (Uh HB).size))
   have g0:=(ck (Uh HC).1 c0)
   obtain ⟨R1,hR1⟩:∃ R1,wr.heap.size = R1:=⟨_,rfl⟩
   rw [hR1] at HK2
   clear hl00 hp0 hr0 hF hlx hxl HX HP HB HO HC c0 c1 c2 HLl
   rw [hR1]
   go_loopw [5,6,7] (fun nv dv iv w4 => nv = .slice p.a p.n p.c ∧ dv = .slice (some ⟨R1,0,none⟩) 1 1 ∧ iv = .int .i64 (-1) ∧ Hid (w4 = wc)) (fun _ _ _ _ => 0)
   case atStart => exact ⟨rfl,rfl,by have:=Uh HN1; congr 1; omega,rfl⟩
   case round =>
    obtain ⟨rfl,rfl,rfl,hww⟩:=hrel
    obtain rfl:=(Uh hww).symm
    have tI:¬ (0:Int) < -1:=by omega
    have tN:((i:Int) == 1) = true:=by have:=Uh HN1; simp; omega
    have hi0:(0:Int) < (i:Int):=by omega
    go_wp2_with fail
    go_region_held3 (fun w' => w'.cell? ⟨b,off,none⟩ = some (.bool p.g)) (first | go_keep | exact k0 | exact k1)
     (first
      | (go_at_call 62; refine (Uh HK1 _ (Below.refl _ _).drew).mono ?_; rintro _ w2 ⟨aN,cN,rfl,ow,b2⟩; have hb2:Below wc.heap.size wc w2:=(Below.refl _ _).drew.trans b2; have k0:=(ck hb2 g0); have HB2:=Hd hb2; have S2:=Hd (And.intro ow.sl (show NewAt wc.heap.size aN from ow.new)); clear ow b2 hb2)
      | (go_at_call 62; refine (Uh HK2 _ (Uh HB2)).mono ?_; rintro _ w3 ⟨aD,cD,rfl,ow,b3⟩; have k1:=(ck b3 k0); have hb3:=(Uh HB2).trans (b3.mono (Uh HB2).size); have hO3:=(Uh HOc).keep hb3; (obtain ⟨j0,u0⟩:=hO3.cells 0 (by decide)); (obtain ⟨j1,u1⟩:=hO3.cells 1 (by decide)); (obtain ⟨j2,u2⟩:=hO3.cells 2 (by decide)); have v0:=hO3.fz 0 (by decide); have v1:=hO3.fz 1 (by decide); have v2:=hO3.fz 2 (by decide); have hz2:=(Uh HB2).size; have S3:=Hd (And.intro ((Uh S2).1.below b3) (And.intro ow.sl (And.intro (show NewAt wc.heap.size aD from fun x hx => by have:=ow.new x hx; omega) hb3))); clear ow b3 hb3 hO3 hz2))
    obtain ⟨sN,sD,nD,hb3⟩:=Uh S3
    have nN:=(Uh S2).2
    have hO3:=(Uh HOc).keep hb3
    have hlo:=(Uh HOc).lt
    have HR:=Hd (And.intro (three_set w3 w.heap.size (.bool p.g) (.slice aN p.n cN) (.slice aD 1 cD) hO3.cells) (ret_Q (w:=w) (gy:=p.g) hO3 sN sD (fun x hx => by have:=nN x hx; omega) (fun x hx => by have:=nD x hx; omega) ((Uh HBc).trans (hb3.mono (Uh HBc).size)) (Nat.le_refl _)))
    clear sN sD nD hb3 nN hO3 hlo
    go_wp2_with fail
    obtain ⟨⟨t0_,t1_,t2_,cc_⟩,hR⟩:=Uh HR
    generalize ((w3.setCell ⟨w.heap.size,0,none⟩ (.bool p.g)).setCell ⟨w.heap.size,1,none⟩ (.slice aN p.n cN)).setCell ⟨w.heap.size,2,none⟩ (.slice aD 1 cD) = wf at *
    refine bodyPost_ret (by simp [results,Tryz.results45,go_sem,t0_,t1_,t2_]; try rfl) rfl ?_
    rw [Uh HF]
    exact ⟨_,rfl,hR⟩
set_option maxRecDepth 100000 in
set_option maxHeartbeats 16000000 in
theorem wfromTerms_many (a:Option Addr) (n c:Nat) (p0:Nq) (r ps:List Nq) (hps:ps = p0 :: r) (w:World) (h:SlQ w a n c ps) (hm:mayQ ps = true) (ht:tmQ ps = true) (hN:2 ≤ n) (hnil:p0.a = none → p0.c = 0) :
  Calls Tryz.prog 45 #[.slice a n c] w fun e w' => ResF w w' (FtF ps) e:=by
 have HOk:=Hd (show ∀ p ∈ ps,Ok p.x from fun p hp => (h.each p hp).2.1)
 obtain ⟨h0,h1⟩:0 < n ∧ n ≤ 1024:=by
  have h1:=(tmQ_get (hps ▸ ht)).1
  have h2:=h.len
  rw [hps] at h2
  simp at h2
  omega
 obtain ⟨wo,hwo⟩:∃ x,w.alloc (.cells #[.bool false,.slice none 0 0,.slice none 0 0] 25) = x:=⟨_,rfl⟩
 have hbo:Below w.heap.size w wo:=by rw [← hwo]; exact bAl
 have hO:=Out.made w
 rw [hwo] at hO
 have KA:=wmayAll_any a n c ps wo (h.below hbo) (by omega)
 rw [hm] at KA
 have HKA:=Hd KA
 have H:=Hd h
 have HL:=Hd h.len
 have HM:=Hd hm
 have HTm:=Hd ht
 have HO:=Hd (And.intro hO hbo)
 have t0:((n:Int) == 0) = false:=by simp; omega
 have t2:¬ (1024:Int) < (n:Int):=by omega
 have t1:decide ((1024:Int) < (n:Int)) = false:=decide_eq_false t2
 clear KA h hm ht hO hbo
 have HPS:=Hd hps
 have HN1:=Hd hN
 clear hps
 go_enter Tryz.func45,Tryz.ntmps45
 go_wp2_with fail
 refine (Uh HKA).mono ?_
 rintro _ w1 ⟨rfl,b1⟩
 have HB1:=Hd ((Uh HO).2.trans (b1.mono (Uh HO).2.size))
 have HO1:=Hd ((Uh HO).1.keep b1)
 clear b1 HKA HO
 go_wp2_with fail
 go_loopw [4] (fun iv wr => ∃ i:Nat,i ≤ n ∧ iv = .int .i64 (i:Nat) ∧ Hid (Below w.heap.size w wr) ∧ Hid (Out wr w.heap.size)) (fun iv _ => n - (intOf iv).toNat)
 case atStart => exact ⟨0,Nat.zero_le _,rfl,Uh HB1,Uh HO1⟩
 case round =>
  clear HB1 HO1
  obtain ⟨i,hi,rfl,HB,HO⟩:=hrel
  by_cases hlt:i < n
  ·have hlt':(i:Int) < (n:Int):=by omega
   obtain ⟨b,off,p,rfl,hp,⟨c0,c1,c2⟩,⟨hs1,hs2⟩,o1,o2⟩:=((Uh H).below (Uh HB)).at' hlt
   have hpm:=mayQ_get (Uh HM) hp
   have hok:=okT_is (i:=i) hpm
   have hto:=tmQ_all (Uh HTm) hp
   rw [hto] at hok
   have KO:=fun (W:World) (hb:Below wr.heap.size wr W) => wisWhole_any p.g p.a p.b p.n p.c p.m p.d p.y W (hs2.below hb) o2
   have KS:=fun (W:World) (hb:Below wr.heap.size wr W) => wSign_any p.g p.a p.b p.n p.c p.m p.d p.x p.y W (hs1.below hb) (hs2.below hb) o1 o2
   unfold ratV at KO KS
   have HP:=Hd hp
   have hsr:=sgn_range (g:=p.g) (x:=p.x) (y:=p.y)
   obtain ⟨SV,hSV⟩:∃ s,SignF p.g p.x p.y = s:=⟨_,rfl⟩
   rw [hSV] at KS hok hsr
   obtain ⟨hsl,hsh⟩:=hsr
   have HKS:=Hd KS
   clear KS hs1 hs2 o1 o2 hp hpm hSV
   by_cases hy:p.y = [1]
   ·rw [decide_eq_true hy] at KO hok
    have HKO:=Hd KO
    clear KO hy
    by_cases hi0:i = 0
    ·have ti:¬ (0:Int) < (i:Int):=by omega
     clear hi0 hok hto
     go_wp2_with fail
     refine (Uh HKO _ (Below.refl _ _)).mono ?_
     rintro _ w1 ⟨rfl,b1⟩
     have HB1:=Hd ((Uh HB).trans (b1.mono (Uh HB).size))
     have HO1:=Hd ((Uh HO).keep b1)
     have HB1r:=Hd b1
     have d0:=(ck b1 c0)
     have d1:=(ck b1 c1)
     have d2:=(ck b1 c2)
     clear b1
     go_wp2_with fail
     exact ⟨⟨i + 1,by omega,by go_num,Uh HB1,Uh HO1⟩,by simp [intOf]; omega⟩
    ·have ti:(0:Int) < (i:Int):=by omega
     by_cases hs:SV < 1
     ·exfalso
      simp [hs,hi0] at hok
     ·have ts:decide (SV < 1) = false:=decide_eq_false hs
      clear hi0 hok hto
      go_wp2_with fail
      refine (Uh HKO _ (Below.refl _ _)).mono ?_
      rintro _ w1 ⟨rfl,b1⟩
      have HB1:=Hd ((Uh HB).trans (b1.mono (Uh HB).size))
      have HO1:=Hd ((Uh HO).keep b1)
      have HB1r:=Hd b1
      have d0:=(ck b1 c0)
      have d1:=(ck b1 c1)
      have d2:=(ck b1 c2)
      clear b1
      go_wp2_with fail
      refine (Uh HKS _ (Uh HB1r)).mono ?_
      rintro _ w2 ⟨rfl,b2⟩
      have HB2:=Hd ((Uh HB1).trans (b2.mono (Uh HB1).size))
      have HO2:=Hd ((Uh HO1).keep b2)
      clear b2
      go_wp2_with fail
      exact ⟨⟨i + 1,by omega,by go_num,Uh HB2,Uh HO2⟩,by simp [intOf]; omega⟩
   ·exfalso
    simp [hy] at hok
  ·obtain rfl:i = n:=by omega
   have hlt2:¬ (i:Int) < (i:Int):=by omega
   obtain ⟨l,hl⟩:∃ l,l = i - 1:=⟨_,rfl⟩
   have tl:(i:Int) - 1 = (l:Int):=by omega
   have hlt:l < i:=by omega
   have HLl:=Hd hl
   clear hl
   obtain ⟨b,off,p,rfl,hp,⟨c0,c1,c2⟩,⟨hs1,hs2⟩,o1,o2⟩:=((Uh H).below (Uh HB)).at' hlt
   have hl0:(0:Int) ≤ (l:Int):=by omega
   have hl1:(l:Int) < (i:Int):=by omega
   have HP:=Hd hp
   have HX:=Hd (And.intro hs1 (And.intro o1 (mayQ_get (Uh HM) hp)))
   clear hs1 hs2 o1 o2 hp hlt2
   clear hi
   obtain ⟨wc,hwc⟩:∃ x,wr.alloc (.cells #[.int .u32 1] 66) = x:=⟨_,rfl⟩
   have hbc:Below wr.heap.size wr wc:=by rw [← hwc]; exact bAl
   have hs1:Sl wc (some ⟨wr.heap.size,0,none⟩) 1 1 [1]:=by rw [← hwc]; exact one_sl wr 1 66
   have HC:=Hd (And.intro hbc hs1)
   clear hbc hs1
   go_wp2_with fail
   have HS0:=Hd (show FwX w wc ps l p.a p.n p.c (some ⟨wr.heap.size,0,none⟩) 1 1 from fwX_start (by have:=Uh HL; have:=Uh HLl; omega) (Uh HP) (Uh HX).2.1 (Uh HX).2.2 (okT_pos (by have:=Uh HLl; omega) (tmQ_all (Uh HTm) (Uh HP))) ((Uh HX).1.below (Uh HC).1) (Uh HC).2 ((Uh HB).trans ((Uh HC).1.mono (Uh HB).size)))
   have HO0:=Hd ((Uh HO).keep (Uh HC).1)
   go_loopw [5,6,7] (fun nv dv iv w4 => ∃ (k:Nat) (an:Option Addr) (mn cn:Nat) (ad:Option Addr) (md cd:Nat),1 ≤ k ∧ k ≤ l ∧ nv = .slice an mn cn ∧ dv = .slice ad md cd ∧ iv = .int .i64 ((k:Int) - 1) ∧ Hid (FwX w w4 ps k an mn cn ad md cd) ∧ Hid (Out w4 w.heap.size)) (fun _ _ iv _ => (intOf iv).toNat)
   case atStart => exact ⟨l,_,_,_,_,_,_,by have:=Uh HLl; omega,Nat.le_refl _,rfl,rfl,by congr 1; omega,Uh HS0,Uh HO0⟩
   case round =>
    clear HS0 HO0
    obtain ⟨k,an,mn,cn,ad,md,cd,hk1,hk,rfl,rfl,rfl,HS,HO4⟩:=hrel
    clear HX HP c0 c1 c2 HB HO HC
    rcases k with _ | _ | j
    ·omega
    ·have tI:(((0 + 1:Nat):Int)) - 1 = 0:=by omega
     rw [tI]
     have tN:((i:Int) == 1) = false:=by simp; omega
     have hS:=Uh HS
     obtain ⟨b2,off2,q,hbe,hq,⟨d0,d1,d2⟩,⟨hq1,hq2⟩,o1,o2⟩:=((Uh H).below hS.bel).at' (show 0 < i by omega)
     simp only [Nat.zero_mul,Nat.add_zero] at d0 d1 d2
     obtain ⟨rfl,rfl⟩:b2 = b ∧ off2 = off:=by cases hbe; exact ⟨rfl,rfl⟩
     have hq0:q = p0:=by rw [Uh HPS] at hq; simpa using hq.symm
     have hd1:ps.drop (0 + 1) = r:=by rw [Uh HPS]; rfl
     have hFF:FtF ps = AddF q.g q.x q.y false (limbs (ftV (tmV (ps.drop (0 + 1)))).2) (limbs (ftV (tmV (ps.drop (0 + 1)))).1):=by
      rw [hd1,hq0]
      have hm_:=Uh HM; have ht_:=Uh HTm; have hb_:=hS.b
      rw [hd1] at hb_
      rw [Uh HPS] at hm_ ht_ ⊢
      exact ftF_ok hm_ ht_ hb_
     have hpos:∀ t ∈ tmV (ps.drop (0 + 1)),0 < t:=by
      have hm_:=Uh HM; have ht_:=Uh HTm; have ho_:=Uh HOk
      rw [Uh HPS] at hm_ ht_ ho_ ⊢
      exact ft_pos hm_ ht_ ho_ 0
     have KP:=fun (W:World) (hb:Below wr.heap.size wr W) => wplus_F q.g false q.a q.b ad an q.n q.c q.m q.d md cd mn cn q.x q.y (limbs (ftV (tmV (ps.drop (0 + 1)))).2) (limbs (ftV (tmV (ps.drop (0 + 1)))).1) W (hq1.below hb) (hq2.below hb) (hS.den.below hb) (hS.num.below hb) o1 o2 (limbs_ok _) (limbs_ok _) (mayQ_get (Uh HM) hq) (ftV_may hS.b hpos)
     unfold ratV at KP
     rw [← hFF] at KP
     have HKP:=Hd KP
     have HBl:=Hd hS.bel
     clear KP hFF hpos hS hd1 hq0 hq hq1 hq2 o1 o2 hbe HS
     obtain ⟨⟨⟨gy,xy,yy⟩,ey⟩,hY⟩:∃ r,FtF ps = r:=⟨_,rfl⟩
     rw [hY] at HKP
     have HY:=Hd hY
     clear hY
     go_wp2_with fail
     refine (Uh HKP _ (Below.refl _ _)).mono ?_
     rintro _ w8 ⟨v8,rfl,aN,mN,cN,aD,mD,cD,rfl,sN,sD,nN,nD,b8⟩
     dsimp only at sN sD
     unfold ratV
     have hO8:=(Uh HO4).keep b8
     obtain ⟨j0,u0⟩:=hO8.cells 0 (by decide)
     obtain ⟨j1,u1⟩:=hO8.cells 1 (by decide)
     obtain ⟨j2,u2⟩:=hO8.cells 2 (by decide)
     have v0:=hO8.fz 0 (by decide)
     have v1:=hO8.fz 1 (by decide)
     have v2:=hO8.fz 2 (by decide)
     have hlo:=(Uh HO4).lt
     have HR:=Hd (And.intro (three_set w8 w.heap.size (.bool gy) (.slice aN mN cN) (.slice aD mD cD) hO8.cells) (ret_Q (w:=w) (gy:=gy) hO8 sN sD (fun x hx => by have:=nN x hx; omega) (fun x hx => by have:=nD x hx; omega) ((Uh HBl).trans (b8.mono (Uh HBl).size)) (Nat.le_refl _)))
     clear hO8 hlo sN sD nN nD b8
     go_wp2_with fail
     obtain ⟨⟨t0_,t1_,t2_,cc_⟩,hR⟩:=Uh HR
     generalize ((w8.setCell ⟨w.heap.size,0,none⟩ (.bool gy)).setCell ⟨w.heap.size,1,none⟩ (.slice aN mN cN)).setCell ⟨w.heap.size,2,none⟩ (.slice aD mD cD) = wf at *
     refine bodyPost_ret (by simp [results,Tryz.results45,go_sem,t0_,t1_,t2_]; try rfl) rfl ?_
     rw [Uh HY]
     exact ⟨_,rfl,hR⟩
    ·have tI:(((j + 2:Nat):Int)) - 1 = ((j + 1:Nat):Int):=by omega
     rw [tI]
     have tP:(0:Int) < ((j + 1:Nat):Int):=by omega
     have hS:FwX w wr ps (j + 2) an mn cn ad md cd:=Uh HS
     obtain ⟨b2,off2,q,hbe,hq,⟨d0,d1,d2⟩,⟨hq1,hq2⟩,o1,o2⟩:=((Uh H).below hS.bel).at' (show j + 1 < i by omega)
     obtain ⟨rfl,rfl⟩:b2 = b ∧ off2 = off:=by cases hbe; exact ⟨rfl,rfl⟩
     have hj0:(0:Int) ≤ ((j + 1:Nat):Int):=by omega
     have hj1:((j + 1:Nat):Int) < (i:Int):=by omega
     have hqm:=mayQ_get (Uh HM) hq
     have hl1:=MayL.len (MayR.parts hqm).1
     have hl2:=MayL.len (bigN_false (ftB_fit hS.b).1)
     have hl3:=MayL.len (bigN_false (ftB_fit hS.b).2)
     have hqn:=hq1.len
     have hnl:=hS.num.len
     have hdl:=hS.den.len
     have hqt:tmV (ps.drop (j + 1)) = val q.x :: tmV (ps.drop (j + 2)):=by rw [Uh HPS] at hq ⊢; exact (tm_tail hq).1
     have KM:=wmulw_any q.a an q.n q.c mn cn q.x (limbs (ftV (tmV (ps.drop (j + 2)))).1) wr hq1 hS.num o1 (limbs_ok _) (by omega)
     rw [limbs_v] at KM
     have HKM:=Hd KM
     have hmul:(limbs (val q.x * (ftV (tmV (ps.drop (j + 2)))).1)).length ≤ 5000:=by
      refine Nat.le_trans (limbs_mul_len o1 _) ?_
      omega
     have HKA:=Hd (fun (W:World) (hb:Below wr.heap.size wr W) (am:Option Addr) (mm cm:Nat) (sm:Sl W am mm cm (limbs (val q.x * (ftV (tmV (ps.drop (j + 2)))).1))) => waddw_any am ad mm cm md cd (limbs (val q.x * (ftV (tmV (ps.drop (j + 2)))).1)) (limbs (ftV (tmV (ps.drop (j + 2)))).2) W sm (hS.den.below hb) (limbs_ok _) (limbs_ok _) (by have:=sm.len; omega) (by omega))
     have HQT:=Hd hqt
     have HQ:=Hd hq
     clear KM hmul hqt hq hq1 hq2 o1 o2 hbe hqm hl1 hl2 hl3 hqn hnl hdl hS
     go_wp2_with fail
     refine (Uh HKM).mono ?_
     rintro _ w5 ⟨am,mm,cm,rfl,sm,nm,zm,b5⟩
     have KA2:=Uh HKA w5 b5 am mm cm sm
     rw [limbs_v,limbs_v] at KA2
     have hV:val q.x * (ftV (tmV (ps.drop (j + 2)))).1 + (ftV (tmV (ps.drop (j + 2)))).2 = (ftV (tmV (ps.drop (j + 1)))).1:=by rw [Uh HQT]; rfl
     rw [hV] at KA2
     have HKA2:=Hd KA2
     have HB5:=Hd b5
     clear HKM HKA sm nm zm b5 KA2 hV
     go_wp2_with fail
     refine (Uh HKA2).mono ?_
     rintro _ w6 ⟨aA,mA,cA,rfl,sA,nA,zA,b6⟩
     have hB6:=(Uh HB5).trans (b6.mono (Uh HB5).size)
     have hS:FwX w wr ps (j + 2) an mn cn ad md cd:=Uh HS
     have hBw:=hS.bel.trans (hB6.mono hS.bel.size)
     have hO6:=(Uh HO4).keep hB6
     have hAl:=sA.len
     by_cases hbg:2048 < mA
     ·have tb:(2048:Int) < (mA:Int):=by omega
      have hbig:bigN (ftV (tmV (ps.drop (j + 1)))).1 = true:=by unfold bigN; simp; omega
      have hF:FtF ps = ((false,[],[]),2):=by
       have hm_:=Uh HM; have ht_:=Uh HTm; have hq_:=Uh HQT
       rw [Uh HPS] at hm_ ht_ hq_ hbig ⊢
       exact ftF_big hm_ ht_ (ft_big hbig (by rw [hq_]; simp))
      have HF:=Hd hF
      have HB6:=Hd hBw
      have HO6:=Hd hO6
      clear hF hbig hAl hO6 hBw hS hB6 sA nA zA b6 HKA2 HB5 HQT HQ HS HO4
      have hOo:=(Uh HO6)
      obtain ⟨j0,u0⟩:=hOo.cells 0 (by decide)
      obtain ⟨j1,u1⟩:=hOo.cells 1 (by decide)
      obtain ⟨j2,u2⟩:=hOo.cells 2 (by decide)
      have v0:=hOo.fz 0 (by decide)
      have v1:=hOo.fz 1 (by decide)
      have v2:=hOo.fz 2 (by decide)
      have HR:=Hd (And.intro (three_set w6 w.heap.size (.bool false) (.slice none 0 0) (.slice none 0 0) hOo.cells) (ret_Q (w:=w) (gy:=false) hOo (sl_nil _) (sl_nil _) (newAt_nil _) (newAt_nil _) (Uh HB6) (Nat.le_refl _)))
      clear hOo
      go_wp2_with fail
      obtain ⟨⟨t0_,t1_,t2_,cc_⟩,hR⟩:=Uh HR
      generalize ((w6.setCell ⟨w.heap.size,0,none⟩ (.bool false)).setCell ⟨w.heap.size,1,none⟩ (.slice none 0 0)).setCell ⟨w.heap.size,2,none⟩ (.slice none 0 0) = wf at *
      refine bodyPost_ret (by simp [results,Tryz.results45,go_sem,t0_,t1_,t2_]; try rfl) rfl ?_
      rw [Uh HF]
      exact ⟨_,rfl,hR⟩
     ·have tb:¬ (2048:Int) < (mA:Int):=by omega
      have hbig:bigN (ftV (tmV (ps.drop (j + 1)))).1 = false:=by unfold bigN; simp; omega
      have HN:=Hd (show FwX w w6 ps (j + 1) aA mA cA an mn cn from ⟨sA,by rw [show (ftV (tmV (ps.drop (j + 1)))).2 = (ftV (tmV (ps.drop (j + 2)))).1 by rw [Uh HQT]; rfl]; exact hS.num.below hB6,zA,hS.nn,by rw [Uh HQT] at hbig ⊢; exact ft_next hS.b hbig,hBw⟩)
      have HO6:=Hd hO6
      clear hbig hAl hO6 hBw hS hB6 sA nA zA b6 HKA2 HB5 HQT HQ HS HO4
      go_wp2_with fail
      exact ⟨⟨j + 1,aA,mA,cA,an,mn,cn,by omega,by omega,rfl,rfl,by go_num,Uh HN,Uh HO6⟩,by simp [intOf]⟩
end Go.Proofs.YtgfpfjghdbcihaaGreatDoor
