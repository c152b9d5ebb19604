/- Wr5 -/
import Derived.Test.YthmcfpeobkgihaaGreatDoorWr6
import Derived.Test.YthmcfpeobkgihaaGreatDoorFo4
import Derived.Test.YthmcfpeobkgihaaGreatDoorWre
import Derived.Test.YthmcfpeobkgihaaGreatDoorBy7
import Derived.Test.YthmcfpeobkgihaaGreatDoorWij
import Derived.Deep.RegionHeld3
import Derived.Test.YthmcfpeobkgihaaGreatDoorWin
namespace Go.Proofs.YthmcfpeobkgihaaGreatDoor
open Go.RowKit Go.Deep
set_option linter.unusedVariables false
set_option maxHeartbeats 4000000 in
theorem wmulw_any (a1 a2:Option Addr) (n1 c1 n2 c2:Nat) (xs ys:List Nat) (w:World) (h1:Sl w a1 n1 c1 xs) (h2:Sl w a2 n2 c2 ys) (ox:Ok xs) (oy:Ok ys) (hb:n1 + n2 ≤ 1000000000) :
  Calls Tryz.prog 54 #[.slice a1 n1 c1,.slice a2 n2 c2] w fun e w' => NewL w w' (val xs * val ys) e:=by
 have hmk:=make_sum n1 n2 (by omega)
 have bel0:=(Below.refl w.heap.size w).alloc (Nat.le_refl _) (.cells (madeCells #[.int .u32 0] (n1 + n2)) 65)
 have HL1:=Hd h1.len
 have HL2:=Hd h2.len
 have HN1:=Hd (fun (hne:xs ≠ []) => h1.block_lt hne)
 have HN2:=Hd (fun (hne:ys ≠ []) => h2.block_lt hne)
 have S1:=Hd (h1.below bel0)
 have S2:=Hd (h2.below bel0)
 have HB:=Hd bel0
 have hR0:RowsR (w.alloc (.cells (madeCells #[.int .u32 0] (n1 + n2)) 65)) (w.alloc (.cells (madeCells #[.int .u32 0] (n1 + n2)) 65)) w.heap.size 0 (n1 + n2) ys xs 0 (fun _ => 0):=⟨Fn.made w (n1 + n2) 65,fun _ _ => by decide,fun _ _ _ => rfl,by simp [valF,valF_zero],Upd.refl _ _ _ _⟩
 have HR0:=Hd hR0
 clear h1 h2 bel0 hR0
 go_enter Tryz.func54,Tryz.ntmps54
 go_wp2_with fail
 generalize hw0:(w.alloc (.cells (madeCells #[.int .u32 0] (n1 + n2)) 65)) = w0 at *
 have HW0:=Hd hw0
 clear hw0
 go_loopw [6] (fun i wr => ∃ k:Nat,∃ f:Nat → Nat,k ≤ n1 ∧ i = .int .i64 k ∧ RowsR wr w0 w.heap.size 0 (n1 + n2) ys xs k f) (fun i _ => n1 - (intOf i).toNat)
 case atStart => exact ⟨0,_,Nat.zero_le _,rfl,Uh HR0⟩
 case round =>
  clear HR0
  obtain ⟨k,f,hk,rfl,hR⟩:=hrel
  by_cases hlt:k < n1
  ·have hlt':(k:Int) < (n1:Int):=by omega
   have hX:=ox.getD k
   have hxne:xs ≠ []:=by intro e; have:=Uh HL1; rw [e] at this; simp at this; omega
   obtain ⟨b1,o1,rfl,hx⟩:=(Uh S1).cells.resolve_left hxne
   have hb1:b1 < w.heap.size:=Uh HN1 hxne _ rfl
   have HX1:=Hd hx
   obtain ⟨wo,rfl⟩:∃ wo:World,wo = wr:=⟨_,rfl⟩
   have HR:=Hd hR
   clear hR hx hxne S1 HN1
   go_wp2_with fail
   go_loopw [7,8] (fun cv jv wr => ∃ j c:Nat,∃ g:Nat → Nat,j ≤ n2 ∧ jv = .int .i64 j ∧ cv = .int .u64 (c:Nat) ∧ RowR wr w0 w.heap.size 0 (n1 + n2) f k (xs.getD k 0) ys j c g) (fun _ jv _ => n2 - (intOf jv).toNat)
   case atStart => exact ⟨0,0,f,Nat.zero_le _,rfl,rfl,(Uh HR).begin _⟩
   case round =>
    obtain ⟨j,c,g,hj,rfl,rfl,hQ⟩:=hrel
    have hc0:=hQ.cle
    by_cases hjl:j < n2
    ·have hjl':(j:Int) < (n2:Int):=by omega
     have hjl2:(k:Int) + (j:Int) < (n1:Int) + (n2:Int):=by omega
     have hyne:ys ≠ []:=by intro e; have:=Uh HL2; rw [e] at this; simp at this; omega
     obtain ⟨b2,o2,rfl,hy⟩:=(Uh S2).cells.resolve_left hyne
     have hb2:b2 < w.heap.size:=Uh HN2 hyne _ rfl
     have g1:=hQ.upd.cells (Uh HX1) (.inl (by omega)) k (by rw [Uh HL1]; exact hlt)
     have g2:=hQ.upd.cells hy (.inl (by omega)) j (by rw [Uh HL2]; exact hjl)
     have g3:=(hQ.fn (k + j) (by omega)).1
     have g4:=(hQ.fn (k + j) (by omega)).2
     rw [Nat.zero_add] at g3 g4
     have by':=oy.getD j
     have br:=hQ.ok (k + j) (by omega)
     have HS0:=hQ.step (by omega) by' hX
     rw [Nat.zero_add] at HS0
     have HS:=Hd HS0
     clear HS0
     have mb:((xs.getD k 0:Nat):Int) * ((ys.getD j 0:Nat):Int) ≤ 18446744065119617025:=by
      have:=mul_bound hX by'
      rw [← Int.natCast_mul]; omega
     have mb0:0 ≤ ((xs.getD k 0:Nat):Int) * ((ys.getD j 0:Nat):Int):=Int.mul_nonneg (by omega) (by omega)
     have e1:=mdl_int (ys.getD j 0) (xs.getD k 0) (g (k + j)) c
     have e2:=mdh_int (ys.getD j 0) (xs.getD k 0) (g (k + j)) c
     rw [Int.mul_comm] at e1 e2
     have e0:(c:Int) + ((xs.getD k 0:Nat):Int) * ((ys.getD j 0:Nat):Int) + (g (k + j):Nat) = ((xs.getD k 0:Nat):Int) * ((ys.getD j 0:Nat):Int) + (g (k + j):Nat) + c:=by omega
     rw [← e0] at e1 e2
     clear e0
     generalize ys.getD j 0 = y at g2 by' HS mb mb0 e1 e2
     generalize hyy:xs.getD k 0 = x at g1 HS mb mb0 e1 e2 hX
     have HY:=Hd hyy
     generalize g (k + j) = r at g3 br HS e1 e2
     clear hQ hyy hy hyne S2 HN2
     go_wp2_with fail
     go_quiet (fail)
     go_wp2
     exact ⟨⟨j + 1,_,_,by omega,by go_num,rfl,(Uh HS).drewN _⟩,by simp [intOf]; omega⟩
    ·have hjn:j = n2:=by omega
     subst hjn
     have hjl':¬ (j:Int) < (j:Int):=by omega
     have hjl3:(k:Int) + (j:Int) < (n1:Int) + (j:Int):=by omega
     have g3:=(hQ.fn (k + j) (by omega)).1
     have g4:=(hQ.fn (k + j) (by omega)).2
     rw [Nat.zero_add] at g3 g4
     have HS:=rows_step (Uh HL2) (Uh HR) hQ (by omega)
     rw [Nat.zero_add] at HS
     have HS':=Hd HS
     generalize ((g (k + j):Nat):Int) = r at g3
     clear hQ HS HR
     go_wp2
     exact ⟨⟨k + 1,_,by omega,by go_num,Uh HS'⟩,by simp [intOf]; omega⟩
  ·have hkn:k = n1:=by omega
   have hv:valF f (n1 + n2) = val xs * val ys:=by
    have hv:=hR.val
    rw [hkn,Uh HL2] at hv
    rw [hv,← Uh HL1,valF_list,Nat.mul_comm]
   have HR:=Hd (And.intro hR hv)
   clear hR hv hkn
   have K:=wnorm_sl (some ⟨w.heap.size,0,none⟩) (n1 + n2) (n1 + n2) _ wr ((Uh HR).1.fn.sl (Nat.le_refl _) (by unfold maxLen; omega)) (by intro e; cases e) (lst_ok (Uh HR).1.ok)
   rw [lst_val,(Uh HR).2] at K
   have HK:=Hd K
   clear K
   go_wp2_with fail
   refine (Uh HK).mono ?_
   rintro e w' ⟨m,rfl,hm,hO,hw⟩
   obtain rfl:=hw.symm
   have HO:=Hd hO
   clear hO hw HK
   go_wp2_with fail
   go_ret
   exact ⟨_,_,_,rfl,Uh HO,fun x hx => by cases hx; exact Nat.le_refl _,(by intro e; cases e),(Uh HB).trans ((Uh HR).1.upd.below (Nat.le_refl _) (Uh HB).size)⟩
theorem mul_len {x y:List Nat} (ox:Ok x) (oy:Ok y):(limbs (val x * val y)).length ≤ x.length + y.length:=by
 refine limbs_len ?_
 rw [Nat.pow_add]
 have h1:=val_lt ox
 have h2:=val_lt oy
 rcases Nat.eq_zero_or_pos (val y) with h | h
 ·rw [h,Nat.mul_zero]; exact Nat.mul_pos (pow_pos _) (pow_pos _)
 ·exact Nat.lt_of_lt_of_le (Nat.mul_lt_mul_of_pos_right h1 h) (Nat.mul_le_mul_left _ (Nat.le_of_lt h2))

theorem lowF_is {g sg:Bool} {P Q N M:Nat} (hl:Nat.gcd N M = 1) (hM:0 < M) (hQ:0 < Q) (h:nI sg N * (Q:Int) = nI g P * (M:Int)) :
  lowF g P Q = if bigN N || bigN M then ((false,[],[]),2) else ((sg && decide (N ≠ 0),limbs N,limbs M),0):=by
 unfold lowF
 by_cases hP:P = 0
 ·rw [if_pos hP]
  have hz:nI g P = 0:=by rw [hP]; unfold nI; split <;> rfl
  rw [hz,Int.zero_mul] at h
  have hN:N = 0:=by
   rcases Int.mul_eq_zero.1 h with e | e
   ·unfold nI at e; split at e <;> omega
   ·omega
  subst hN
  have hM1:M = 1:=by rw [Nat.gcd_zero_left] at hl; exact hl
  subst hM1
  have e1:bigN 0 = false:=rfl
  have e2:bigN 1 = false:=rfl
  rw [e1,e2]
  simp
  exact ⟨rfl,rfl⟩
 ·rw [if_neg hP]
  have hG:0 < Nat.gcd P Q:=Nat.gcd_pos_of_pos_right _ hQ
  have eP:=div_of (Nat.gcd_dvd_left P Q)
  have eQ:=div_of (Nat.gcd_dvd_right P Q)
  have hq:0 < Q / Nat.gcd P Q:=div_pos_of_dvd (Nat.gcd_dvd_right _ _) hQ
  have hp:P / Nat.gcd P Q ≠ 0:=fun e => hP (by rw [eP,e,Nat.zero_mul])
  have key:nI (sg && decide (N ≠ 0)) N * ((Q / Nat.gcd P Q:Nat):Int) = nI g (P / Nat.gcd P Q) * (M:Int):=by
   rw [nI_and]
   have h2:nI sg N * ((Q / Nat.gcd P Q * Nat.gcd P Q:Nat):Int) = nI g (P / Nat.gcd P Q * Nat.gcd P Q) * (M:Int):=by rw [← eP,← eQ]; exact h
   rw [nI_mul] at h2
   generalize Nat.gcd P Q = G at *
   generalize Q / G = q at *
   generalize P / G = p at *
   have h3:(nI sg N * (q:Int)) * (G:Int) = (nI g p * (M:Int)) * (G:Int):=by
    rw [Int.mul_assoc,← Int.natCast_mul,h2,Int.mul_right_comm]
   exact Int.eq_of_mul_eq_mul_right (by omega) h3
  obtain ⟨r1,r2,r3⟩:=low_one hl (cop_quot hQ) hM hq (by intro e; simp at e; exact e.2) (fun _ => hp) key
  rw [← r2,← r3,← r1]

set_option maxRecDepth 100000 in
set_option maxHeartbeats 16000000 in
theorem wturned_any (neg:Bool) (a1 b1:Option Addr) (n1 c1 m1 d1:Nat) (x1 y1:List Nat) (w:World) (hx1:Sl w a1 n1 c1 x1) (hy1:Sl w b1 m1 d1 y1) (nx:a1 = none → c1 = 0) (ny:b1 = none → d1 = 0) (s1:n1 ≤ 1000000) (s2:m1 ≤ 1000000) :
  Calls Tryz.prog 46 #[ratV neg a1 n1 c1 b1 m1 d1] w fun e w' => ∃ v,e = .returned v ∧ NewR w w' ((!neg) && decide (x1 ≠ [])) x1 y1 v:=by
 obtain ⟨SG,hSG⟩:∃ s,((!neg) && decide (x1 ≠ [])) = s:=⟨_,rfl⟩
 rw [hSG]
 have bx:=Box.made w neg a1 n1 c1 b1 m1 d1
 obtain ⟨wa,hwa⟩:∃ wa,ratBox w neg a1 n1 c1 b1 m1 d1 = wa:=⟨_,rfl⟩
 rw [hwa] at bx
 unfold ratBox at hwa
 have hba:=bx.bel
 obtain ⟨wo,hwo⟩:∃ x,wa.alloc (.cells #[.bool false,.slice none 0 0,.slice none 0 0] 25) = x:=⟨_,rfl⟩
 have hbo:Below wa.heap.size wa wo:=by rw [← hwo]; exact bAl
 have hO:Out wo wa.heap.size:=by rw [← hwo]; exact Out.made wa
 have bx2:=bx.keep hbo
 have hB:=hba.trans (hbo.mono hba.size)
 have hRw:w.heap.size ≤ wa.heap.size:=hba.size
 have hne1:w.heap.size ≠ wa.heap.size:=by have:=bx.lt; omega
 have hne3:wa.heap.size ≠ w.heap.size:=by have:=bx.lt; omega
 have p0:=bx2.d0
 have p1:=bx2.d1
 have p2:=bx2.d2
 have HRw:=Hd hRw
 have HO:=Hd hO
 have HBo:=Hd hB
 have HC1:=Hd (fun (W:World) (hb:Below wo.heap.size wo W) => wcopied_any a1 n1 c1 x1 W ((hx1.below hB).below hb) nx (by omega))
 have HC2:=Hd (fun (W:World) (hb:Below wo.heap.size wo W) => wcopied_any b1 m1 d1 y1 W ((hy1.below hB).below hb) ny (by omega))
 have hl:=hx1.len
 clear hx1 hy1 nx ny bx bx2 hba hbo hB hO
 unfold ratV
 cases neg
 ·by_cases h0:0 < n1
  ·have t0:(0:Int) < (n1:Int):=by omega
   have hS:SG = true:=by rw [← hSG]; simp; intro e; rw [e] at hl; simp at hl; omega
   subst hS
   clear hSG
   go_enter Tryz.func46,Tryz.ntmps46
   go_wp2_with fail
   go_region_held3 (fun w' => w'.cell? ⟨w.heap.size,0,none⟩ = some (.bool false) ∧ w'.cell? ⟨w.heap.size,1,none⟩ = some (.slice a1 n1 c1) ∧ w'.cell? ⟨w.heap.size,2,none⟩ = some (.slice b1 m1 d1)) (first | go_keep | (exact ⟨k0,k1,k2⟩) | (exact ⟨j0,j1,j2⟩))
    (first
     | (go_at_call_of 48 (Value.slice a1 n1 c1); refine (Uh HC1 _ (Below.refl _ _).drew).mono ?_; rintro _ wk ⟨aq,cq,rfl,oq,bl_k⟩; have hb_k:Below wo.heap.size wo wk:=(Below.refl _ _).drew.trans bl_k; have k0:=(ck hb_k p0); have k1:=(ck hb_k p1); have k2:=(ck hb_k p2); have SQ:=Hd oq; clear oq; have HB_k:=Hd hb_k; clear hb_k bl_k)
     | (go_at_call_of 48 (Value.slice b1 m1 d1); refine (Uh HC2 _ (Uh HB_k)).mono ?_; rintro _ wj ⟨ar,cr,rfl,orr,bl_j⟩; have hb_j:Below wo.heap.size wo wj:=(Uh HB_k).trans (bl_j.mono (Uh HB_k).size); have j0:=(ck bl_j k0); have j1:=(ck bl_j k1); have j2:=(ck bl_j k2); have hO3:=(Uh HO).keep hb_j; obtain ⟨x0,q0⟩:=hO3.cells 0 (by decide); obtain ⟨x1,q1⟩:=hO3.cells 1 (by decide); obtain ⟨x2,q2⟩:=hO3.cells 2 (by decide); have r0:=hO3.fz 0 (by decide); have r1:=hO3.fz 1 (by decide); have r2:=hO3.fz 2 (by decide); have HO3:=Hd hO3; have SR:=Hd (And.intro ((Uh SQ).sl.below bl_j) (And.intro (show NewAt (wa.heap.size + 1) aq from fun x hx => Nat.le_trans (Uh HO).lt (Nat.le_trans (Below.refl wo.heap.size wo).drew.size ((Uh SQ).new x hx))) (And.intro orr.sl (show NewAt (wa.heap.size + 1) ar from fun x hx => Nat.le_trans (Uh HO).lt (Nat.le_trans (Uh HB_k).size (orr.new x hx)))))); clear orr hO3; have HB_j:=Hd hb_j; clear hb_j bl_j))
   have H4:=Hd (three_set wj wa.heap.size (.bool true) (.slice aq n1 cq) (.slice ar m1 cr) (Uh HO3).cells)
   have HB3:=Hd ((Uh HBo).trans ((Uh HB_j).mono (Uh HBo).size))
   clear q0 q1 q2 r0 r1 r2
   try go_wp2_with fail
   obtain ⟨t0,t1,t2,c4⟩:=Uh H4
   generalize ((wj.setCell ⟨wa.heap.size,0,none⟩ (.bool true)).setCell ⟨wa.heap.size,1,none⟩ (.slice aq n1 cq)).setCell ⟨wa.heap.size,2,none⟩ (.slice ar m1 cr) = wf at *
   refine bodyPost_ret (by simp [results,Tryz.results46,go_sem,t0,t1,t2]; try rfl) rfl ?_
   obtain ⟨sN,nN,sD,nD⟩:=Uh SR
   exact ⟨_,rfl,newR_of (Uh HRw) (Uh HO3).lt (Uh HB3) sN nN sD nD c4 true⟩
  ·have t0:¬ (0:Int) < (n1:Int):=by omega
   have hS:SG = false:=by rw [← hSG]; simp; exact List.eq_nil_of_length_eq_zero (by omega)
   subst hS
   clear hSG
   go_enter Tryz.func46,Tryz.ntmps46
   go_wp2_with fail
   go_region_held3 (fun w' => w'.cell? ⟨w.heap.size,0,none⟩ = some (.bool false) ∧ w'.cell? ⟨w.heap.size,1,none⟩ = some (.slice a1 n1 c1) ∧ w'.cell? ⟨w.heap.size,2,none⟩ = some (.slice b1 m1 d1)) (first | go_keep | (exact ⟨k0,k1,k2⟩) | (exact ⟨j0,j1,j2⟩))
    (first
     | (go_at_call_of 48 (Value.slice a1 n1 c1); refine (Uh HC1 _ (Below.refl _ _).drew).mono ?_; rintro _ wk ⟨aq,cq,rfl,oq,bl_k⟩; have hb_k:Below wo.heap.size wo wk:=(Below.refl _ _).drew.trans bl_k; have k0:=(ck hb_k p0); have k1:=(ck hb_k p1); have k2:=(ck hb_k p2); have SQ:=Hd oq; clear oq; have HB_k:=Hd hb_k; clear hb_k bl_k)
     | (go_at_call_of 48 (Value.slice b1 m1 d1); refine (Uh HC2 _ (Uh HB_k)).mono ?_; rintro _ wj ⟨ar,cr,rfl,orr,bl_j⟩; have hb_j:Below wo.heap.size wo wj:=(Uh HB_k).trans (bl_j.mono (Uh HB_k).size); have j0:=(ck bl_j k0); have j1:=(ck bl_j k1); have j2:=(ck bl_j k2); have hO3:=(Uh HO).keep hb_j; obtain ⟨x0,q0⟩:=hO3.cells 0 (by decide); obtain ⟨x1,q1⟩:=hO3.cells 1 (by decide); obtain ⟨x2,q2⟩:=hO3.cells 2 (by decide); have r0:=hO3.fz 0 (by decide); have r1:=hO3.fz 1 (by decide); have r2:=hO3.fz 2 (by decide); have HO3:=Hd hO3; have SR:=Hd (And.intro ((Uh SQ).sl.below bl_j) (And.intro (show NewAt (wa.heap.size + 1) aq from fun x hx => Nat.le_trans (Uh HO).lt (Nat.le_trans (Below.refl wo.heap.size wo).drew.size ((Uh SQ).new x hx))) (And.intro orr.sl (show NewAt (wa.heap.size + 1) ar from fun x hx => Nat.le_trans (Uh HO).lt (Nat.le_trans (Uh HB_k).size (orr.new x hx)))))); clear orr hO3; have HB_j:=Hd hb_j; clear hb_j bl_j))
   have H4:=Hd (three_set wj wa.heap.size (.bool false) (.slice aq n1 cq) (.slice ar m1 cr) (Uh HO3).cells)
   have HB3:=Hd ((Uh HBo).trans ((Uh HB_j).mono (Uh HBo).size))
   clear q0 q1 q2 r0 r1 r2
   try go_wp2_with fail
   obtain ⟨t0,t1,t2,c4⟩:=Uh H4
   generalize ((wj.setCell ⟨wa.heap.size,0,none⟩ (.bool false)).setCell ⟨wa.heap.size,1,none⟩ (.slice aq n1 cq)).setCell ⟨wa.heap.size,2,none⟩ (.slice ar m1 cr) = wf at *
   refine bodyPost_ret (by simp [results,Tryz.results46,go_sem,t0,t1,t2]; try rfl) rfl ?_
   obtain ⟨sN,nN,sD,nD⟩:=Uh SR
   exact ⟨_,rfl,newR_of (Uh HRw) (Uh HO3).lt (Uh HB3) sN nN sD nD c4 false⟩
 ·have hS:SG = false:=by rw [← hSG]; rfl
  subst hS
  clear hSG
  go_enter Tryz.func46,Tryz.ntmps46
  go_wp2_with fail
  refine wp_region_held_drew (S:=fun w' => w'.cell? ⟨w.heap.size,0,none⟩ = some (.bool true) ∧ w'.cell? ⟨w.heap.size,1,none⟩ = some (.slice a1 n1 c1) ∧ w'.cell? ⟨w.heap.size,2,none⟩ = some (.slice b1 m1 d1)) (by kernel_rfl) (by simp [p0,p1,p2]) (fun hHeld => ?_)
  refine wpAnyH_take (i := 0) (oi := { dst := some 3, op := Op.fieldAddr 25 (Operand.tmp 1) 0, type := 0, pos := "rational.go:150", after := #[], guard := none }) (v := ?v0) rfl (by kernel_rfl) (by kernel_rfl) (by kernel_rfl) (fun _ _ _ h => h) (Or.inl ⟨by rfl, ?y0⟩) (by assumption) ?r0
  case y0 =>
   intro W hSw
   try dsimp only at hSw
   go_simp
   try with_reducible rfl
  try simp only [Act.put,List.setIfInBounds_toArray,List.set_cons_zero,List.set_cons_succ]
  refine wpAnyH_take (i := 1) (oi := { dst := some 4, op := Op.load 4 (Operand.tmp 3), type := 4, pos := "rational.go:150", after := #[{ on := 0, ground := Ground.data }], guard := none }) (v := ?v1) rfl (by kernel_rfl) (by kernel_rfl) (by kernel_rfl) (fun _ _ _ h => h) (Or.inl ⟨by rfl, ?y1⟩) (by assumption) ?r1
  case y1 =>
   intro W hSw
   try dsimp only at hSw
   go_simp
   try with_reducible rfl
  try simp only [Act.put,List.setIfInBounds_toArray,List.set_cons_zero,List.set_cons_succ]
  refine wpAnyH_take (i := 2) (oi := { dst := some 5, op := Op.unOp UnOp.not 4 (Operand.tmp 4), type := 4, pos := "rational.go:150", after := #[{ on := 1, ground := Ground.data }], guard := none }) (v := ?v2) rfl (by kernel_rfl) (by kernel_rfl) (by kernel_rfl) (fun _ _ _ h => h) (Or.inl ⟨by rfl, ?y2⟩) (by assumption) ?r2
  case y2 =>
   intro W hSw
   try dsimp only at hSw
   go_simp
   try with_reducible rfl
  try simp only [Act.put,List.setIfInBounds_toArray,List.set_cons_zero,List.set_cons_succ]
  refine wpAnyH_take (i := 3) (oi := { dst := some 6, op := Op.move (Operand.tmp 5), type := 4, pos := "rational.go:150", after := #[{ on := 2, ground := Ground.data }], guard := none }) (v := ?v3) rfl (by kernel_rfl) (by kernel_rfl) (by kernel_rfl) (fun _ _ _ h => h) (Or.inl ⟨by rfl, ?y3⟩) (by assumption) ?r3
  case y3 =>
   intro W hSw
   try dsimp only at hSw
   go_simp
   try with_reducible rfl
  try simp only [Act.put,List.setIfInBounds_toArray,List.set_cons_zero,List.set_cons_succ]
  refine wpAnyH_take (i := 4) (oi := { dst := some 7, op := Op.fieldAddr 25 (Operand.tmp 1) 1, type := 0, pos := "rational.go:150", after := #[{ on := 3, ground := Ground.guard }], guard := some (3, true) }) (v := _) rfl (by kernel_rfl) (by kernel_rfl) (by kernel_rfl) (fun _ _ _ h => h) (Or.inr ⟨by rfl, rfl⟩) (by assumption) ?r4
  try simp only [Act.put,List.setIfInBounds_toArray,List.set_cons_zero,List.set_cons_succ]
  refine wpAnyH_take (i := 5) (oi := { dst := some 8, op := Op.load 23 (Operand.tmp 7), type := 23, pos := "rational.go:150", after := #[{ on := 4, ground := Ground.data }, { on := 3, ground := Ground.guard }], guard := some (3, true) }) (v := _) rfl (by kernel_rfl) (by kernel_rfl) (by kernel_rfl) (fun _ _ _ h => h) (Or.inr ⟨by rfl, rfl⟩) (by assumption) ?r5
  try simp only [Act.put,List.setIfInBounds_toArray,List.set_cons_zero,List.set_cons_succ]
  refine wpAnyH_take (i := 6) (oi := { dst := some 9, op := Op.call { callee := Callee.builtin Builtin.len, args := #[Operand.tmp 8], argTypes := #[23] }, type := 3, pos := "rational.go:150", after := #[{ on := 5, ground := Ground.data }, { on := 3, ground := Ground.guard }], guard := some (3, true) }) (v := _) rfl (by kernel_rfl) (by kernel_rfl) (by kernel_rfl) (fun _ _ _ h => h) (Or.inr ⟨by rfl, rfl⟩) (by assumption) ?r6
  try simp only [Act.put,List.setIfInBounds_toArray,List.set_cons_zero,List.set_cons_succ]
  refine wpAnyH_take (i := 7) (oi := { dst := some 10, op := Op.binOp BinOp.gtr 3 (Operand.tmp 9) (Operand.const (Value.int IntKind.i64 0)) 3, type := 4, pos := "rational.go:150", after := #[{ on := 6, ground := Ground.data }, { on := 3, ground := Ground.guard }], guard := some (3, true) }) (v := _) rfl (by kernel_rfl) (by kernel_rfl) (by kernel_rfl) (fun _ _ _ h => h) (Or.inr ⟨by rfl, rfl⟩) (by assumption) ?r7
  try simp only [Act.put,List.setIfInBounds_toArray,List.set_cons_zero,List.set_cons_succ]
  refine wpAnyH_take (i := 8) (oi := { dst := some 11, op := Op.pick (Operand.tmp 6) (Operand.tmp 10) (Operand.const (Value.bool false)), type := 4, pos := "rational.go:150", after := #[{ on := 3, ground := Ground.data }, { on := 7, ground := Ground.data }], guard := none }) (v := ?v8) rfl (by kernel_rfl) (by kernel_rfl) (by kernel_rfl) (fun _ _ _ h => h) (Or.inl ⟨by rfl, ?y8⟩) (by assumption) ?r8
  case y8 =>
   intro W hSw
   try dsimp only at hSw
   go_simp
   try with_reducible rfl
  try simp only [Act.put,List.setIfInBounds_toArray,List.set_cons_zero,List.set_cons_succ]
  refine wpAnyH_take (i := 9) (oi := { dst := some 12, op := Op.fieldAddr 25 (Operand.tmp 1) 1, type := 0, pos := "rational.go:150", after := #[], guard := none }) (v := ?v9) rfl (by kernel_rfl) (by kernel_rfl) (by kernel_rfl) (fun _ _ _ h => h) (Or.inl ⟨by rfl, ?y9⟩) (by assumption) ?r9
  case y9 =>
   intro W hSw
   try dsimp only at hSw
   go_simp
   try with_reducible rfl
  try simp only [Act.put,List.setIfInBounds_toArray,List.set_cons_zero,List.set_cons_succ]
  refine wpAnyH_take (i := 10) (oi := { dst := some 13, op := Op.load 23 (Operand.tmp 12), type := 23, pos := "rational.go:150", after := #[{ on := 9, ground := Ground.data }], guard := none }) (v := ?v10) rfl (by kernel_rfl) (by kernel_rfl) (by kernel_rfl) (fun _ _ _ h => h) (Or.inl ⟨by rfl, ?y10⟩) (by assumption) ?r10
  case y10 =>
   intro W hSw
   try dsimp only at hSw
   go_simp
   try with_reducible rfl
  try simp only [Act.put,List.setIfInBounds_toArray,List.set_cons_zero,List.set_cons_succ]
  refine wpAnyH_take (i := 12) (oi := { dst := some 15, op := Op.fieldAddr 25 (Operand.tmp 1) 2, type := 0, pos := "rational.go:150", after := #[], guard := none }) (v := ?v12) rfl (by kernel_rfl) (by kernel_rfl) (by kernel_rfl) (fun _ _ _ h => h) (Or.inl ⟨by rfl, ?y12⟩) (by assumption) ?r12
  case y12 =>
   intro W hSw
   try dsimp only at hSw
   go_simp
   try with_reducible rfl
  try simp only [Act.put,List.setIfInBounds_toArray,List.set_cons_zero,List.set_cons_succ]
  refine wpAnyH_take (i := 13) (oi := { dst := some 16, op := Op.load 23 (Operand.tmp 15), type := 23, pos := "rational.go:150", after := #[{ on := 12, ground := Ground.data }], guard := none }) (v := ?v13) rfl (by kernel_rfl) (by kernel_rfl) (by kernel_rfl) (fun _ _ _ h => h) (Or.inl ⟨by rfl, ?y13⟩) (by assumption) ?r13
  case y13 =>
   intro W hSw
   try dsimp only at hSw
   go_simp
   try with_reducible rfl
  try simp only [Act.put,List.setIfInBounds_toArray,List.set_cons_zero,List.set_cons_succ]
  refine wpAnyH_ready (rs:=[11]) (by kernel_rfl) (by simp) ?_
  refine AllReadyH.cons (o := { dst := some 14, op := Op.call { callee := Callee.value (Operand.func 48), args := #[Operand.tmp 13], argTypes := #[22] }, type := 22, pos := "rational.go:150", after := #[{ on := 10, ground := Ground.data }, { on := 3, ground := Ground.chain }], guard := none }) rfl (fun K hK => ?_) AllReadyH.nil
  go_simp
  refine (Uh HC1 _ (Below.refl _ _).drew).mono ?_
  rintro _ wk ⟨aq,cq,rfl,oq,bl_k⟩
  have hb_k:Below wo.heap.size wo wk:=(Below.refl _ _).drew.trans bl_k
  have k0:=(ck hb_k p0)
  have k1:=(ck hb_k p1)
  have k2:=(ck hb_k p2)
  have SQ:=Hd oq
  have HB_k:=Hd hb_k
  clear oq hb_k bl_k
  refine hK.out _ _ ⟨k0,k1,k2⟩ (fun hHeld => ?_)
  clear hK K
  try simp only [Act.put,List.setIfInBounds_toArray,List.set_cons_zero,List.set_cons_succ]
  refine wpAnyH_ready (rs:=[14]) (by kernel_rfl) (by simp) ?_
  refine AllReadyH.cons (o := { dst := some 17, op := Op.call { callee := Callee.value (Operand.func 48), args := #[Operand.tmp 16], argTypes := #[22] }, type := 22, pos := "rational.go:150", after := #[{ on := 13, ground := Ground.data }, { on := 11, ground := Ground.chain }], guard := none }) rfl (fun K hK => ?_) AllReadyH.nil
  go_simp
  refine (Uh HC2 _ (Uh HB_k)).mono ?_
  rintro _ wj ⟨ar,cr,rfl,orr,bl_j⟩
  have hb_j:Below wo.heap.size wo wj:=(Uh HB_k).trans (bl_j.mono (Uh HB_k).size)
  have j0:=(ck bl_j k0)
  have j1:=(ck bl_j k1)
  have j2:=(ck bl_j k2)
  have HO3:=Hd ((Uh HO).keep hb_j)
  have SR:=Hd (And.intro ((Uh SQ).sl.below bl_j) (And.intro (show NewAt (wa.heap.size + 1) aq from fun x hx => Nat.le_trans (Uh HO).lt (Nat.le_trans (Below.refl wo.heap.size wo).drew.size ((Uh SQ).new x hx))) (And.intro orr.sl (show NewAt (wa.heap.size + 1) ar from fun x hx => Nat.le_trans (Uh HO).lt (Nat.le_trans (Uh HB_k).size (orr.new x hx))))))
  have HB_j:=Hd hb_j
  clear orr hb_j bl_j
  refine hK.out _ _ ⟨j0,j1,j2⟩ (fun hHeld => ?_)
  clear hK K
  try simp only [Act.put,List.setIfInBounds_toArray,List.set_cons_zero,List.set_cons_succ]
  refine wpAnyH_take (i := 15) (oi := { dst := some 18, op := Op.build 25 #[(0, Operand.tmp 11), (1, Operand.tmp 14), (2, Operand.tmp 17)], type := 25, pos := "rational.go:150", after := #[{ on := 8, ground := Ground.data }, { on := 11, ground := Ground.data }, { on := 14, ground := Ground.data }], guard := none }) (v := ?v15) rfl (by kernel_rfl) (by kernel_rfl) (by kernel_rfl) (fun _ _ _ h => h) (Or.inl ⟨by rfl, ?y15⟩) (by assumption) ?r15
  case y15 =>
   intro W hSw
   try dsimp only at hSw
   go_simp
   try with_reducible rfl
  try simp only [Act.put,List.setIfInBounds_toArray,List.set_cons_zero,List.set_cons_succ]
  have hO3:=Uh HO3
  obtain ⟨x0,q0⟩:=hO3.cells 0 (by decide)
  obtain ⟨x1,q1⟩:=hO3.cells 1 (by decide)
  obtain ⟨x2,q2⟩:=hO3.cells 2 (by decide)
  have r0:=hO3.fz 0 (by decide)
  have r1:=hO3.fz 1 (by decide)
  have r2:=hO3.fz 2 (by decide)
  clear hO3
  refine wpAnyH_ready (rs:=[16]) (by kernel_rfl) (by simp) ?_
  refine AllReadyH.cons rfl (fun K hK => ?_) AllReadyH.nil
  go_simp
  refine hK.out _ _ (by go_keep) (fun hHeld => ?_)
  clear hK K hHeld
  refine wpAnyH_done (by kernel_rfl) ?_ _
  have H4:=Hd (three_set wj wa.heap.size (.bool false) (.slice aq n1 cq) (.slice ar m1 cr) (Uh HO3).cells)
  have HB3:=Hd ((Uh HBo).trans ((Uh HB_j).mono (Uh HBo).size))
  clear q0 q1 q2 r0 r1 r2
  try go_wp2_with fail
  obtain ⟨t0,t1,t2,c4⟩:=Uh H4
  generalize ((wj.setCell ⟨wa.heap.size,0,none⟩ (.bool false)).setCell ⟨wa.heap.size,1,none⟩ (.slice aq n1 cq)).setCell ⟨wa.heap.size,2,none⟩ (.slice ar m1 cr) = wf at *
  refine bodyPost_ret (by simp [results,Tryz.results46,go_sem,t0,t1,t2]; try rfl) rfl ?_
  obtain ⟨sN,nN,sD,nD⟩:=Uh SR
  exact ⟨_,rfl,newR_of (Uh HRw) (Uh HO3).lt (Uh HB3) sN nN sD nD c4 false⟩
end Go.Proofs.YthmcfpeobkgihaaGreatDoor
