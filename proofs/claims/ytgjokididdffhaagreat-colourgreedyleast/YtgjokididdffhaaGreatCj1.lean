/- Cv5 -/
import Derived.Test.YtgjokididdffhaaGreatCv4
import Derived.Test.YtgjokididdffhaaGreatCv1
import Derived.Test.YtgjokididdffhaaGreatCh3
import Derived.Test.YtgjokididdffhaaGreatDa1
import Derived.Test.YtgjokididdffhaaGreatCu5
import Derived.Test.YtgjokididdffhaaGreatCh2
import Derived.Test.YtgjokididdffhaaGreatRq0
namespace Go.Proofs.YtgjokididdffhaaGreat
open Go.RowKit Go.Deep
set_option linter.unusedVariables false
theorem RoF.front {w:World} {X:Nat} {pf:Nat → Nat} (h:RoF w X 16 pf) (i:Nat) (hi:i < 16) (v:Value):RoF (w.setCell ⟨X,i,none⟩ v) X 16 pf:=by
 intro e he
 rw [World.frozen?_setCell]
 refine ⟨?_,(h e he).2⟩
 rw [World.cell?_setCell_other _ _ _ _ (by intro c; simp at c; first | done | omega)]
 exact (h e he).1
structure FrA (w w':World) (e:Ending) (X R:Nat) (vs:List Value) (b1:Option Addr) (m1 d1:Nat) (b2:Option Addr) (m2 d2:Nat) (g h cnt:Nat) (cs:Nat → Int) (st cols:List Int) (v:Nat) (z:Nat) (a:Option Addr) (c:Nat) (ls':Nat → Int):Prop where
 num:NumC (csL cs R) (z:Int)
 ret:e = .returned (.slice a (grR (fun _ j => ¬ BarA st cols R cs v j) 0 (z + 1)).length c)
 sl:SlI w' a (grR (fun _ j => ¬ BarA st cols R cs v j) 0 (z + 1)).length c (grR (fun _ j => ¬ BarA st cols R cs v j) 0 (z + 1))
 new:∀ x,a = some x → w.heap.size ≤ x.block
 bru:BrI w' X R (vs.set 14 (.int .i64 ((cnt + 1:Nat):Int))) b1 m1 d1 b2 m2 d2 g h (cnt + 1) cs ls' st cols
 le:∀ j,j < R → ls' j ≤ ((cnt + 1:Nat):Int)
 chg:Chg (fun j => j = h ∨ j = X) w w'
 arr:∃ pf,RoF w' X 16 pf
set_option maxRecDepth 100000 in
set_option maxHeartbeats 16000000 in
theorem cfree_ac (X R:Nat) (vs:List Value) (b1:Option Addr) (m1 d1:Nat) (b2:Option Addr) (m2 d2:Nat) (g h cnt:Nat) (cs ls:Nat → Int) (st cols:List Int) (v k:Nat) (w:World) (hB:BrI w X R vs b1 m1 d1 b2 m2 d2 g h cnt cs ls st cols) (hm:MayP (R:Int) (R:Int) st cols) (hv:v < R) (hb1:m1 ≤ 17592186044000) (hb2:m2 ≤ 17592186044000) (hcs:∀ i,i < R → -1 ≤ cs i ∧ cs i < (k:Int)) (hk:k < R) (hls:∀ j,j < R → ls j ≤ (cnt:Int)) (hcn:cnt ≤ 1000000) (hf:vs[2]? = some (.func (.func 104) #[] #[])) (hvl:vs.length ≤ 16) (hA:∃ pf,RoF w X 16 pf) (hg:GraP st cols R R) (hpr:PrpC st cols R cs) :
  Calls Tryz.prog 66 #[.pointer (some ⟨X,0,none⟩),.int .i64 (v:Int)] w fun e w' => ∃ z a c ls',FrA w w' e X R vs b1 m1 d1 b2 m2 d2 g h cnt cs st cols v z a c ls':=by
 have hR8:R ≤ 128:=by have:=hm.head.fit; omega
 have q14:=(hB.box.all 14 _ hB.v14).1
 have r14:=(hB.box.all 14 _ hB.v14).2
 have KD:=Hj (cdrop_any X 14 cnt w q14 r14 (by omega))
 have hB1:=hB.drop (cnt + 1)
 have c1:Chg (fun j => j = h ∨ j = X) w (w.setCell ⟨X,14,none⟩ (.int .i64 ((cnt + 1:Nat):Int))):=Chg.of_set _ _ _ _ (.inr rfl)
 have q2:=(hB1.box.all 2 _ (by rw [List.getElem?_set_ne (by omega)]; exact hf)).1
 obtain ⟨pf,hpf⟩:=hA
 have KP:=Hj (cbarC_any X R _ b1 m1 d1 b2 m2 d2 g h (cnt + 1) cs ls st cols v _ hB1 (by simpa using hvl) pf (hpf.front 14 (by omega) _) hm hg hpr hv hb1 hb2 (fun i hi => ⟨(hcs i hi).1,by have:=(hcs i hi).2; omega⟩) (fun j hj => by have:=hls j hj; omega))
 have HC:=Hj hcs
 have HM:=Hj hm
 have HL:=Hj hls
 have HC1:=Hj c1
 have HF:=Hj hf
 have HGP:=Hj (And.intro hg hpr)
 clear hcs hm hls hB hB1 c1 hf q14 r14 hpf hg hpr
 go_enter Tryz.func66,Tryz.ntmps66
 go_wp2_with fail
 refine (Uh KD).mono ?_
 rintro _ w1 ⟨⟨z0,rfl⟩,hw1⟩
 rw [← hw1] at q2 KP HC1
 clear KD hw1
 go_wp2_with fail
 refine (Uh KP).mono ?_
 rintro _ w2 ⟨⟨z1,rfl⟩,ls',hP⟩
 have hB2:=hP.bru
 have hM2:=hP.mks
 have hC2:=hP.chg
 have HA2:=Hj hP.arr
 clear hP
 have KN:=Hj (cnumber_any (some ⟨g,0,none⟩) R R (csL cs R) w2 (hB2.col.sli hR8) hR8 (fun i hi => by rw [csL_get hi]; have:=(Uh HC i hi).2; omega) (fun e => by cases e))
 have q13:=(hB2.box.all 13 _ hB2.v13).1
 have HB2:=Hj hB2
 have HMK:=Hj (show ∀ j,j < R → (ls' j = ((cnt + 1:Nat):Int) ↔ BarA st cols R cs v j) from fun j hj => by
  rw [hM2.iff j hj]
  have:=Uh HL j hj
  exact ⟨fun z => z.elim (fun z => by omega) id,.inr⟩)
 have HLE:=Hj hM2.le
 have HC2:=Hj ((Uh HC1).trans hC2)
 clear KP hB2 hM2 hC2 HC1 q2
 go_wp2_with fail
 refine (Uh KN).mono ?_
 rintro _ w3 ⟨zi,rfl,hN,b3⟩
 obtain ⟨hz0,hzk,_⟩:=numC_rng hN (Uh HC)
 obtain ⟨z,rfl⟩:∃ z:Nat,zi = (z:Int):=⟨zi.toNat,by omega⟩
 have hw7:IntKind.i64.wrap ((z:Int) + 1) = (z:Int) + 1:=by rw [wrap_i64n]; omega
 have HN:=Hj hN
 have HB3:=Hj ((Uh HB2).below b3)
 have HC3:=Hj ((Uh HC2).trans (Chg.of_below b3))
 have HA3:=Hj (show ∃ pf,RoF w3 X 16 pf from by obtain ⟨p,k1⟩:=Uh HA2; exact ⟨p,k1.below b3⟩)
 have hzR:z < R:=by omega
 obtain ⟨P,hP⟩:∃ P:Nat → Nat → Prop,P = (fun _ j => ¬ BarA st cols R cs v j):=⟨_,rfl⟩
 have HP:=Hj hP
 obtain ⟨i64,hi,hz,hs,hb⟩:=info_parts Tryz.info_i64
 have HI:=Hj (And.intro hi (And.intro hz (And.intro hs hb)))
 have hone:∀ y:Int,∀ z ∈ [Value.int .i64 y],z.oneCell' = true:=by intro y z hz; simp at hz; subst hz; rfl
 clear KN HB2 HC2 hN b3 hz0 hzk q13 hP hi hz hs hb
 go_wp2_with fail
 go_loopw [26,5] (fun kv lv wr => ∃ j:Nat,j ≤ z + 1 ∧ kv = .int .i64 (j:Int) ∧ Hid (wr.ownsRow w3.heap.size 3 1 lv (grR P 0 j).length (valsI (grR P 0 j))) ∧ Hid (Below w3.heap.size w3 wr)) (fun kv _ _ => z + 1 - (intOf kv).toNat)
 case atStart => exact ⟨0,Nat.zero_le _,rfl,Hj (by simpa [grR,valsI] using World.ownsRow_nil w3 w3.heap.size 3 1),Hj (Below.refl _ _)⟩
 case round =>
  obtain ⟨j,hj,rfl,HO,HW⟩:=hrel
  by_cases hlt:j < z + 1
  ·have hlt':(j:Int) < (z:Int) + 1:=by omega
   have hjR:j < R:=by omega
   have hbr:=(Uh HB3).below (Uh HW)
   have q14:=(hbr.box.all 14 _ hbr.v14).1
   have q15:=(hbr.box.all 15 _ hbr.v15).1
   have KH:=Hj (chas_any X 14 h R ((cnt + 1:Nat):Int) j (ls' j) wr q14 q15 hjR hR8 (hbr.last j hjR).1)
   have hcl:(grR P 0 j).length ≤ 128:=by have:=grR_len P 0 j; omega
   have hIF:=Uh HMK j hjR
   clear hbr q14 q15
   by_cases hbp:BarA st cols R cs v j
   ·have he:(ls' j == ((cnt + 1:Nat):Int)) = true:=by rw [hIF.2 hbp]; simp
    rw [he] at KH
    have HN1:=Hj (show grR P 0 (j + 1) = grR P 0 j from by
     have ht:tb (P 0 j) = false:=by rw [Uh HP]; simp [tb,hbp]
     simp [grR,ht])
    clear he hIF hbp
    go_wp2_with fail
    refine (Uh KH).mono ?_
    rintro _ w4 ⟨rfl,b4⟩
    have HB4:=Hj ((Uh HW).trans (b4.mono (Uh HW).size))
    have HO4:=Hj (show w4.ownsRow w3.heap.size 3 1 u5 (grR P 0 (j + 1)).length (valsI (grR P 0 (j + 1))) from by rw [Uh HN1]; exact ownsRow_chg (S:=fun _ => False) (Uh HO) (Chg.of_below b4) (fun _ _ x => x))
    clear KH b4
    go_wp2_with fail
    exact ⟨⟨j + 1,by omega,by (first | rfl | go_num),HO4,HB4⟩,by simp [intOf]; omega⟩
   ·have he:(ls' j == ((cnt + 1:Nat):Int)) = false:=by
     rw [Bool.eq_false_iff]; intro e; exact hbp (hIF.1 (by simpa using e))
    rw [he] at KH
    have HN1:=Hj (show grR P 0 (j + 1) = grR P 0 j ++ [(j:Int)] from by
     have ht:tb (P 0 j) = true:=by rw [Uh HP]; simp [tb,hbp]
     simp [grR,ht])
    clear he hIF hbp
    go_wp2_with fail
    refine (Uh KH).mono ?_
    rintro _ w4 ⟨rfl,b4⟩
    have HB4:=Hj ((Uh HW).trans (b4.mono (Uh HW).size))
    obtain ⟨C,hC⟩:∃ C,grR P 0 j = C:=⟨_,rfl⟩
    rw [hC] at HO hcl HN1
    have HO4:=Hj (ownsRow_chg (S:=fun _ => False) (Uh HO) (Chg.of_below b4) (fun _ _ x => x))
    have hmx:C.length + 1 ≤ maxLen:=by unfold maxLen; omega
    have hby:(C.length + 1) * 8 ≤ 140737488355328:=by omega
    have hsz:=(Uh HB4).size
    clear hC KH b4 HO
    go_wp2_with (at_builtin; refine wpList_append_lies _ rfl _ _ 23 rfl w3.heap.size 3 i64 (.int .i64 0) 1 8 Tryz.underlying23 (Uh HI).1 (Uh HI).2.1 (Uh HI).2.2.1 (Uh HI).2.2.2 rfl (by decide) u5 C.length (valsI C) rfl ((Uh HO4).alloc _) ⟨w4.heap.size,0,none⟩ 1 1 [.int .i64 (j:Int)] rfl rfl (World.news_of_block (alloc_block _ _)) (hone _) (by decide) hmx hby (by simp; omega) (w4.heap.size + 1) (by simp) ?_)
    intro g2 cap w5 hown hgr hat hlt5
    have hB5:Below w3.heap.size w3 w5:=((Uh HB4).trans (((Below.refl w3.heap.size w4).alloc hsz _))).grown hgr (by simp; omega) (fun j hj => (own_ge (Uh HO4) j hj).1)
    have HN:=Hj (show w5.ownsRow w3.heap.size 3 1 (.slice (some ⟨g2,0,none⟩) (C.length + 1) cap) (grR P 0 (j + 1)).length (valsI (grR P 0 (j + 1))) from by
     rw [Uh HN1]
     simpa [valsI] using hown)
    have HB5:=Hj hB5
    clear hown hgr hat hlt5 hB5
    go_wp2_with fail
    exact ⟨⟨j + 1,by omega,by (first | rfl | go_num),HN,HB5⟩,by simp [intOf]; omega⟩
  ·obtain rfl:j = z + 1:=by omega
   have hlt':¬ ((z + 1:Nat):Int) < (z:Int) + 1:=by omega
   obtain ⟨a,c,hv',hs'⟩:=own_slI (Uh HO)
   have HNEW:=Hj (show ∀ z,a = some z → w3.heap.size ≤ z.block from fun z hz => (own_ge (Uh HO) z.block (by rw [hv',hz]; rfl)).1)
   have HSS:=Hj hs'
   subst hv'
   clear hs' HO
   go_wp2_with fail
   try go_ret
   have hP:=Uh HP
   subst hP
   exact ⟨z,a,c,ls',Uh HN,rfl,Uh HSS,fun x hx => Nat.le_trans (Uh HC3).size (Uh HNEW x hx),(Uh HB3).below (Uh HW),Uh HLE,(Uh HC3).trans (Chg.of_below (Uh HW)),by obtain ⟨p,k1⟩:=Uh HA3; exact ⟨p,k1.below ((Uh HW))⟩⟩
structure LstA (st cols:List Int) (R:Nat) (cs:Nat → Int) (v y:Nat):Prop where
 may:¬ BarA st cols R cs v y
 bar:∀ j,j < y → BarA st cols R cs v j
theorem LstA.one {st cols:List Int} {R:Nat} {cs:Nat → Int} {v y x:Nat} (h:LstA st cols R cs v y) (k:LstA st cols R cs v x):y = x:=by
 rcases Nat.lt_trichotomy y x with c | c | c
 ·exact absurd (k.bar y c) h.may
 ·exact c
 ·exact absurd (h.bar x c) k.may
def PntA (st cols:List Int) (R:Nat) (xs:List Int):Nat → (Nat → Int) → Prop
 | 0,cs => cs = fun _ => -1
 | k + 1,cs => ∃ cs0 y,PntA st cols R xs k cs0 ∧ LstA st cols R cs0 (xs.getD k 0).toNat y ∧ cs = updC cs0 (xs.getD k 0).toNat y
theorem PntA.one {st cols:List Int} {R:Nat} {xs:List Int}:∀ {k:Nat} {cs ds:Nat → Int},PntA st cols R xs k cs → PntA st cols R xs k ds → cs = ds
 | 0,_,_,h,g => by unfold PntA at h g; rw [h,g]
 | k + 1,_,_,⟨c,y,h1,h2,h3⟩,⟨d,x,g1,g2,g3⟩ => by
  have e:=PntA.one h1 g1
  subst e
  have e:=h2.one g2
  subst e
  rw [h3,g3]
theorem LstA.prp {st cols:List Int} {R:Nat} {cs:Nat → Int} {v y:Nat} (hm:MayP (R:Int) (R:Int) st cols) (hg:GraP st cols R R) (h:LstA st cols R cs v y) (hp:PrpC st cols R cs):PrpC st cols R (updC cs v y):=by
 intro u w e hu
 have key:∀ x,adG st cols R v x → cs x ≠ (y:Int):=fun x hx e2 => h.may (.inl ⟨(x:Int),(ad_row hm hx.1).1 hx,by rw [show ((x:Int)).toNat = x by omega]; exact e2⟩)
 have ir:=adG.ir hg
 unfold updC at hu ⊢
 by_cases c1:u = v
 ·subst c1
  have c2:w ≠ u:=fun e2 => by subst e2; exact ir _ e
  rw [if_pos rfl,if_neg c2]
  exact (key w e).symm
 ·rw [if_neg c1] at hu ⊢
  by_cases c2:w = v
  ·subst c2
   rw [if_pos rfl]
   exact key u (adG.sy hg _ _ e)
  ·rw [if_neg c2]
   exact hp u w e hu
theorem PntA.prp {R n:Nat} {st cols xs:List Int} (hm:MayP (R:Int) (R:Int) st cols) (hg:GraP st cols R R):∀ {k:Nat} {cs:Nat → Int},PntA st cols R xs k cs → PrpC st cols R cs
 | 0,cs,h => by unfold PntA at h; subst h; intro u v _ h0; simp at h0
 | k + 1,cs,⟨c,y,h1,h2,h3⟩ => by
  subst h3
  exact h2.prp hm hg (PntA.prp (n:=n) hm hg h1)
theorem PntA.rng {R n:Nat} {st cols xs:List Int} (hm:MayP (R:Int) (R:Int) st cols) (hg:GraP st cols R R) (hx:∀ i,i < n → 0 ≤ xs.getD i 0 ∧ xs.getD i 0 < (R:Int)):∀ {k:Nat} {cs:Nat → Int},k ≤ n → PntA st cols R xs k cs → ∀ i,-1 ≤ cs i ∧ cs i < (k:Int)
 | 0,cs,_,h,i => by unfold PntA at h; subst h; simp
 | k + 1,cs,hk,⟨c,y,h1,h2,h3⟩,i => by
  have ih:=PntA.rng hm hg hx (by omega) h1
  subst h3
  unfold updC
  split
  ·cases y with
   | zero => omega
   | succ j =>
    obtain ⟨i',_,he⟩:=(h2.bar j (by omega)).used hm (PntA.prp (n:=n) hm hg h1) (by have:=hx k (by omega); omega)
    have:=ih i'
    omega
  ·have:=ih i
   omega
theorem FrA.head {w w':World} {e:Ending} {X R:Nat} {vs:List Value} {b1:Option Addr} {m1 d1:Nat} {b2:Option Addr} {m2 d2 g h cnt:Nat} {cs:Nat → Int} {st cols:List Int} {v z:Nat} {a:Option Addr} {c:Nat} {ls':Nat → Int} (hpr:PrpC st cols R cs) (k:FrA w w' e X R vs b1 m1 d1 b2 m2 d2 g h cnt cs st cols v z a c ls') (hm:MayP (R:Int) (R:Int) st cols) (hv:v < R) (hc:∀ i,i < R → -1 ≤ cs i ∧ cs i < (R:Int)):∃ y:Nat,(grR (fun _ j => ¬ BarA st cols R cs v j) 0 (z + 1)).getD 0 0 = (y:Int) ∧ 0 < (grR (fun _ j => ¬ BarA st cols R cs v j) 0 (z + 1)).length ∧ LstA st cols R cs v y:=by
 rcases grR_head (P:=fun _ j => ¬ BarA st cols R cs v j) (u:=0) (z + 1) with ⟨_,h2⟩ | ⟨y,h1,h2,h3,h4⟩
 ·exfalso
  refine h2 z (by omega) (fun hb => ?_)
  obtain ⟨i,hi,he⟩:=hb.used hm hpr hv
  have:=(numC_rng k.num hc).2.2 i hi
  omega
 ·exact ⟨y,h1,h2,h3,fun j hj => Classical.byContradiction (h4 j hj)⟩
structure FhA (w w':World) (e:Ending) (X R:Nat) (vs:List Value) (b1:Option Addr) (m1 d1:Nat) (b2:Option Addr) (m2 d2:Nat) (g h cnt:Nat) (cs:Nat → Int) (st cols:List Int) (v:Nat) (y b off m c:Nat) (ls':Nat → Int):Prop where
 ret:e = .returned (.slice (some ⟨b,off,none⟩) m c)
 pos:0 < m
 cell:w'.cell? ⟨b,off,none⟩ = some (.int .i64 (y:Int))
 lst:LstA st cols R cs v y
 bru:BrI w' X R (vs.set 14 (.int .i64 ((cnt + 1:Nat):Int))) b1 m1 d1 b2 m2 d2 g h (cnt + 1) cs ls' st cols
 le:∀ j,j < R → ls' j ≤ ((cnt + 1:Nat):Int)
 chg:Chg (fun j => j = h ∨ j = X) w w'
 arr:∃ pf,RoF w' X 16 pf
theorem cfree_hda (X R:Nat) (vs:List Value) (b1:Option Addr) (m1 d1:Nat) (b2:Option Addr) (m2 d2:Nat) (g h cnt:Nat) (cs ls:Nat → Int) (st cols:List Int) (v k:Nat) (w:World) (hB:BrI w X R vs b1 m1 d1 b2 m2 d2 g h cnt cs ls st cols) (hm:MayP (R:Int) (R:Int) st cols) (hv:v < R) (hb1:m1 ≤ 17592186044000) (hb2:m2 ≤ 17592186044000) (hcs:∀ i,i < R → -1 ≤ cs i ∧ cs i < (k:Int)) (hk:k < R) (hls:∀ j,j < R → ls j ≤ (cnt:Int)) (hcn:cnt ≤ 1000000) (hf:vs[2]? = some (.func (.func 104) #[] #[])) (hvl:vs.length ≤ 16) (hA:∃ pf,RoF w X 16 pf) (hg:GraP st cols R R) (hpr:PrpC st cols R cs) :
  Calls Tryz.prog 66 #[.pointer (some ⟨X,0,none⟩),.int .i64 (v:Int)] w fun e w' => ∃ y b off m c ls',FhA w w' e X R vs b1 m1 d1 b2 m2 d2 g h cnt cs st cols v y b off m c ls':=by
 refine (cfree_ac X R vs b1 m1 d1 b2 m2 d2 g h cnt cs ls st cols v k w hB hm hv hb1 hb2 hcs hk hls hcn hf hvl hA hg hpr).mono ?_
 rintro e w' ⟨z,a,c,ls',hF⟩
 obtain ⟨y,h1,h2,h3⟩:=hF.head hpr hm hv (fun i hi => ⟨(hcs i hi).1,by have:=(hcs i hi).2; omega⟩)
 obtain ⟨b,off,ea,hc⟩:=hF.sl.at h2
 have h0:=hc 0 h2
 rw [h1,Nat.add_zero] at h0
 exact ⟨y,b,off,_,c,ls',by rw [hF.ret,ea],h2,h0,h3,hF.bru,hF.le,hF.chg,hF.arr⟩
structure PaA2 (w w':World) (e:Ending) (X R:Nat) (g h:Nat) (st cols xs:List Int) (n:Nat) (cs:Nat → Int):Prop where
 ret:e = .returned (.slice (some ⟨g,0,none⟩) R R)
 pnt:PntA st cols R xs n cs
 row:RoV w' g R (fun i => .int .i64 (cs i))
 chg:Chg (fun j => j = g ∨ j = h ∨ j = X) w w'
set_option maxRecDepth 100000 in
set_option maxHeartbeats 16000000 in
theorem cpaint_ac (X R:Nat) (vs:List Value) (b1:Option Addr) (m1 d1:Nat) (b2:Option Addr) (m2 d2:Nat) (g h:Nat) (ls:Nat → Int) (st cols:List Int) (a:Option Addr) (n c:Nat) (xs:List Int) (w:World) (hB:BrI w X R vs b1 m1 d1 b2 m2 d2 g h 1 (fun _ => -1) ls st cols) (hm:MayP (R:Int) (R:Int) st cols) (hb1:m1 ≤ 17592186044000) (hb2:m2 ≤ 17592186044000) (hls:∀ j,j < R → ls j ≤ 1) (hf:vs[2]? = some (.func (.func 104) #[] #[])) (hx:SlI w a n c xs) (hn:n ≤ R) (hrg:∀ i,i < n → 0 ≤ xs.getD i 0 ∧ xs.getD i 0 < (R:Int)) (hap:∀ z,a = some z → xs ≠ [] → z.block ≠ g ∧ z.block ≠ h ∧ z.block ≠ X) (hvl:vs.length ≤ 16) (hA:∃ pf,RoF w X 16 pf) (hg:GraP st cols R R) :
  Calls Tryz.prog 41 #[.pointer (some ⟨X,0,none⟩),.slice a n c] w fun e w' => ∃ cs,PaA2 w w' e X R g h st cols xs n cs:=by
 have hR8:R ≤ 128:=by have:=hm.head.fit; omega
 have HX:=Hj hx
 have HM:=Hj hm
 have HRG:=Hj hrg
 have HAP:=Hj hap
 have H0:=Hj (And.intro hB (And.intro hls (And.intro hf (And.intro hvl hA))))
 have HG:=Hj hg
 clear hB hm hls hf hx hrg hap hvl hA hg
 go_enter Tryz.func41,Tryz.ntmps41
 go_wp2_with fail
 go_loopw [9,6] (fun kv _ wr => ∃ k:Nat,k ≤ n ∧ kv = .int .i64 (k:Int) ∧ Hid (∃ cs ls vs',BrI wr X R vs' b1 m1 d1 b2 m2 d2 g h (1 + k) cs ls st cols ∧ (∀ j,j < R → ls j ≤ ((1 + k:Nat):Int)) ∧ vs'[2]? = some (.func (.func 104) #[] #[]) ∧ PntA st cols R xs k cs ∧ vs'.length ≤ 16 ∧ (∃ pf,RoF wr X 16 pf) ∧ Chg (fun j => j = g ∨ j = h ∨ j = X) w wr)) (fun kv _ _ => n - (intOf kv).toNat)
 case atStart => exact ⟨0,Nat.zero_le _,rfl,Hj ⟨fun _ => -1,ls,vs,(Uh H0).1,(Uh H0).2.1,(Uh H0).2.2.1,rfl,(Uh H0).2.2.2.1,(Uh H0).2.2.2.2,Chg.refl _ _⟩⟩
 case round =>
  obtain ⟨k,hk,rfl,HK⟩:=hrel
  obtain ⟨cs,ls2,vs2,hbr,hle,hf2,hpn,hvl,hA,hch⟩:=Uh HK
  by_cases hlt:k < n
  ·have hlt':(k:Int) < (n:Int):=by omega
   obtain ⟨bb,off,e1,hc⟩:=((Uh HX).chg hch (fun z hz hne e => by have:=Uh HAP z hz hne; omega)).at (by omega)
   subst e1
   have sk:=hc k hlt
   have hg:=Uh HRG k hlt
   obtain ⟨v,hv⟩:∃ v:Nat,xs.getD k 0 = (v:Int):=⟨(xs.getD k 0).toNat,by omega⟩
   rw [hv] at sk hg
   have hvR:v < R:=by omega
   have hvR':(v:Int) < (R:Int):=by omega
   have hrng:=PntA.rng (Uh HM) (Uh HG) (Uh HRG) hk hpn
   have hprp:=PntA.prp (n:=n) (Uh HM) (Uh HG) hpn
   have q13:=(hbr.box.all 13 _ hbr.v13).1
   have KF:=Hj (fun W (b:Below wr.heap.size wr W) => cfree_hda X R vs2 b1 m1 d1 b2 m2 d2 g h (1 + k) cs ls2 st cols v k W (hbr.below b) (Uh HM) hvR hb1 hb2 (fun i _ => hrng i) (by omega) hle (by omega) hf2 hvl (by obtain ⟨p,k1⟩:=hA; exact ⟨p,k1.below b⟩) (Uh HG) hprp)
   have HST:=Hj (fun y (hl:LstA st cols R cs v y) => (show PntA st cols R xs (k + 1) (updC cs v y) from ⟨cs,y,hpn,by rw [hv]; exact hl,by rw [hv]; rfl⟩))
   have HCh:=Hj hch
   have HF2:=Hj (And.intro hf2 hvl)
   have hgX:=hbr.ne.2.1
   clear hc hv hg hrng hbr hle hf2 hpn hch HK hvl hA hprp
   go_wp2_with fail
   go_region_with
    (go_at_call 66; refine (Uh KF _ (by first | exact Below.refl _ _ | exact (Below.refl _ _).drew)).mono ?_; rintro _ w4 ⟨y,b4,o4,m4,c4,ls4,hF⟩; have e4:=hF.ret; subst e4; have hp4:(0:Int) < (m4:Int):=(by have:=hF.pos; omega); have hc4:=hF.cell; have k0:=(hF.bru.box.all 13 _ hF.bru.v13).1; have hcv:=(hF.bru.col v hvR).1; have hfv:=(hF.bru.col v hvR).2; have k1:=(Chg.of_set (S:=fun j => j = g) w4 g v (.int .i64 (y:Int)) rfl).cell (b:=X) (i:=13) (fun e => hgX e.symm) k0; have HF:=Hj hF; clear hF)
   all_goals
    have HN:=Hj (show ∃ cs ls vs',BrI (w4.setCell ⟨g,v,none⟩ (.int .i64 (y:Int))) X R vs' b1 m1 d1 b2 m2 d2 g h (1 + (k + 1)) cs ls st cols ∧ (∀ j,j < R → ls j ≤ ((1 + (k + 1):Nat):Int)) ∧ vs'[2]? = some (.func (.func 104) #[] #[]) ∧ PntA st cols R xs (k + 1) cs ∧ vs'.length ≤ 16 ∧ (∃ pf,RoF (w4.setCell ⟨g,v,none⟩ (.int .i64 (y:Int))) X 16 pf) ∧ Chg (fun j => j = g ∨ j = h ∨ j = X) w (w4.setCell ⟨g,v,none⟩ (.int .i64 (y:Int))) from
     ⟨updC cs v y,ls4,_,(show BrI _ X R _ b1 m1 d1 b2 m2 d2 g h (1 + k + 1) _ _ _ _ from (Uh HF).bru.paint v y hvR),(Uh HF).le,by rw [List.getElem?_set_ne (by omega)]; exact (Uh HF2).1,Uh HST y (Uh HF).lst,by rw [List.length_set]; exact (Uh HF2).2,(by obtain ⟨p,k1⟩:=(Uh HF).arr; exact ⟨p,k1.chg (S:=fun j => j = g) (Chg.of_set _ _ _ _ rfl) (fun e => hgX e.symm)⟩),(Uh HCh).trans (Chg.trans (by first | exact (Uh HF).chg.mono (fun j _ e => .inr e) | exact (Chg.of_drew _).trans ((Uh HF).chg.mono (fun j _ e => .inr e))) (Chg.of_set _ _ _ _ (.inl rfl)))⟩)
    clear HF k0 k1 hcv hfv hc4 hp4
    go_wp2_with fail
    exact ⟨⟨k + 1,by omega,by (first | rfl | go_num),HN⟩,by simp [intOf]; omega⟩
  ·obtain rfl:k = n:=by omega
   have hlt':¬ (k:Int) < (k:Int):=by omega
   have q13:=(hbr.box.all 13 _ hbr.v13).1
   have HA:=Hj (show PaA2 w wr (.returned (.slice (some ⟨g,0,none⟩) R R)) X R g h st cols xs k cs from ⟨rfl,hpn,hbr.col,hch⟩)
   clear hbr hle hf2 hpn hch HK hvl hA
   go_wp2_with fail
   try go_ret
   exact ⟨cs,Uh HA⟩
def nuB (f:Nat → Bool):Nat → Nat
 | 0 => 0
 | i + 1 => nuB f i + (if f i = true then 1 else 0)
theorem nuB_le (f:Nat → Bool):∀ i,nuB f i ≤ i
 | 0 => Nat.le_refl _
 | i + 1 => by have:=nuB_le f i; simp only [nuB]; split <;> omega
theorem nuB_zero {f:Nat → Bool}:∀ {i},nuB f i = 0 ↔ ∀ u,u < i → f u = false
 | 0 => ⟨fun _ u hu => absurd hu (Nat.not_lt_zero _),fun _ => rfl⟩
 | i + 1 => by
  have ih:=nuB_zero (f:=f) (i:=i)
  simp only [nuB]
  constructor
  ·intro h u hu
   by_cases e:u = i
   ·subst e
    cases hf:f u
    ·rfl
    ·rw [if_pos hf] at h; omega
   ·exact ih.1 (by omega) u (by omega)
  ·intro h
   rw [ih.2 (fun u hu => h u (by omega)),if_neg (by rw [h i (by omega)]; decide)]
theorem nuB_congr {f g:Nat → Bool}:∀ i,(∀ u,u < i → f u = g u) → nuB f i = nuB g i
 | 0,_ => rfl
 | i + 1,h => by simp only [nuB]; rw [nuB_congr i (fun u hu => h u (by omega)),h i (by omega)]
theorem nuB_drop {f:Nat → Bool} {v:Nat} (hf:f v = true):∀ i,v < i → nuB (fun u => if u = v then false else f u) i + 1 = nuB f i
 | 0,h => absurd h (Nat.not_lt_zero _)
 | i + 1,h => by
  simp only [nuB]
  by_cases e:v = i
  ·subst e
   rw [nuB_congr (g:=f) v (fun u hu => by rw [if_neg (by omega)])]
   simp [hf]
  ·have:=nuB_drop hf i (by omega)
   simp only [show ¬ i = v by omega,if_false]
   omega
theorem nuB_two {f:Nat → Bool}:∀ {i},2 ≤ nuB f i ↔ ∃ p q,p ≠ q ∧ p < i ∧ q < i ∧ f p = true ∧ f q = true
 | 0 => ⟨fun h => absurd h (by simp [nuB]),fun ⟨p,q,_,h,_⟩ => absurd h (Nat.not_lt_zero _)⟩
 | i + 1 => by
  have ih:=nuB_two (f:=f) (i:=i)
  simp only [nuB]
  constructor
  ·intro h
   by_cases c:2 ≤ nuB f i
   ·obtain ⟨p,q,h1,h2,h3,h4,h5⟩:=ih.1 c
    exact ⟨p,q,h1,by omega,by omega,h4,h5⟩
   ·have h1:nuB f i = 1 ∧ f i = true:=by
     by_cases e:f i = true
     ·rw [if_pos e] at h; exact ⟨by omega,e⟩
     ·rw [if_neg e] at h; omega
    have h2:∃ p,p < i ∧ f p = true:=by
     apply Classical.byContradiction
     intro hn
     have:nuB f i = 0:=nuB_zero.2 (fun u hu => by
      cases hu2:f u
      ·rfl
      ·exact absurd ⟨u,hu,hu2⟩ hn)
     omega
    obtain ⟨p,hp,hp2⟩:=h2
    exact ⟨p,i,by omega,by omega,by omega,hp2,h1.2⟩
  ·rintro ⟨p,q,h1,h2,h3,h4,h5⟩
   by_cases e1:p = i
   ·subst e1
    rw [if_pos h4]
    have:nuB f p ≠ 0:=fun h => by have:=nuB_zero.1 h q (by omega); rw [this] at h5; cases h5
    omega
   ·by_cases e2:q = i
    ·subst e2
     rw [if_pos h5]
     have:nuB f q ≠ 0:=fun h => by have:=nuB_zero.1 h p (by omega); rw [this] at h4; cases h4
     omega
    ·have:=ih.2 ⟨p,q,h1,by omega,by omega,h4,h5⟩
     split <;> omega
def adQ (Q:Nat → Bool) (N u v:Nat):Prop:=u < N ∧ v < N ∧ Q (u * N + v) = true
structure PaQ (Q:Nat → Bool) (N:Nat) (T0 lf0:Nat → Bool) (v:Nat) (ag:Bool) (lf:Nat → Bool):Prop where
 sub:∀ u,u < N → lf u = true → T0 u = true
 mx:∀ T:Nat → Prop,(∀ u,T u → u < N ∧ T0 u = true) → CyP (adQ Q N) T → ∀ u,T u → lf u = true
 no:ag = false → (∀ u,u < N → lf u = lf0 u) ∧ ∀ u,u < v → lf u = true → 2 ≤ nuB (fun x => lf x && Q (x * N + u)) N
 yes:ag = true → nuB lf N < nuB lf0 N
theorem PaQ.le {Q:Nat → Bool} {N:Nat} {T0 lf0:Nat → Bool} {v:Nat} {ag:Bool} {lf:Nat → Bool} (h:PaQ Q N T0 lf0 v ag lf):nuB lf N ≤ nuB lf0 N:=by
 cases ag
 ·exact Nat.le_of_eq (nuB_congr N (h.no rfl).1)
 ·exact Nat.le_of_lt (h.yes rfl)
theorem PaQ.keep {Q:Nat → Bool} {N:Nat} {T0 lf0:Nat → Bool} {v:Nat} {ag:Bool} {lf:Nat → Bool} (h:PaQ Q N T0 lf0 v ag lf) (hk:lf v = true → 2 ≤ nuB (fun x => lf x && Q (x * N + v)) N):PaQ Q N T0 lf0 (v + 1) ag lf :=
 ⟨h.sub,h.mx,fun e => ⟨(h.no e).1,fun u hu hl => by
  by_cases c:u = v
  ·subst c; exact hk hl
  ·exact (h.no e).2 u (by omega) hl⟩,h.yes⟩
theorem PaQ.drop {Q:Nat → Bool} {N:Nat} {T0 lf0:Nat → Bool} {v:Nat} {ag:Bool} {lf:Nat → Bool} (h:PaQ Q N T0 lf0 v ag lf) (hv:v < N) (hl:lf v = true) (hk:nuB (fun x => lf x && Q (x * N + v)) N < 2):PaQ Q N T0 lf0 (v + 1) true (fun u => if u = v then false else lf u):=by
 refine ⟨fun u hu e => ?_,fun T hT hc u hu => ?_,fun e => (by cases e),fun _ => ?_⟩
 ·by_cases c:u = v
  ·rw [if_pos c] at e; cases e
  ·rw [if_neg c] at e; exact h.sub u hu e
 ·by_cases c:u = v
  ·subst c
   obtain ⟨p,q,h1,h2,h3,h4,h5⟩:=hc u hu
   have:2 ≤ nuB (fun x => lf x && Q (x * N + u)) N:=nuB_two.2 ⟨p,q,h1,h4.1,h5.1,by simp [h.mx T hT hc p h2,h4.2.2],by simp [h.mx T hT hc q h3,h5.2.2]⟩
   omega
  ·rw [if_neg c]; exact h.mx T hT hc u hu
 ·have h1:=nuB_drop hl N hv
  have h2:=h.le
  omega
theorem PaQ.done {Q:Nat → Bool} {N:Nat} {T0 lf0 lf:Nat → Bool} (h:PaQ Q N T0 lf0 N false lf):nuB lf N = 0 ↔ FoP (adQ Q N) (fun u => u < N ∧ T0 u = true):=by
 constructor
 ·intro h0 T hT hc u hu
  have h1:=h.mx T hT hc u hu
  have h2:=nuB_zero.1 h0 u (hT u hu).1
  rw [h1] at h2
  cases h2
 ·intro hF
  refine nuB_zero.2 (fun u hu => ?_)
  cases e:lf u
  ·rfl
  ·refine absurd ⟨hu,e⟩ (hF (fun x => x < N ∧ lf x = true) (fun x hx => ⟨hx.1,h.sub x hx.1 hx.2⟩) (fun x hx => ?_) u)
   obtain ⟨p,q,h1,h2,h3,h4,h5⟩:=nuB_two.1 ((h.no rfl).2 x hx.1 hx.2)
   simp at h4 h5
   exact ⟨p,q,h1,⟨h2,h4.1⟩,⟨h3,h5.1⟩,⟨h2,hx.1,h4.2⟩,⟨h3,hx.1,h5.2⟩⟩
def twB (cs:Nat → Int) (c d:Int) (v:Nat):Bool:=(cs v == c) || (cs v == d)
def Sk1 (Q:Nat → Bool) (N:Nat) (cs:Nat → Int) (v b c d:Nat):Prop:=Q (v * N + b) = true ∧ Q (b * N + c) = true ∧ c ≠ v ∧ cs c = cs v ∧ d ≠ b ∧ (Q (c * N + d) = true ∨ Q (v * N + d) = true) ∧ cs d = cs b
def SkP (Q:Nat → Bool) (N:Nat) (cs:Nat → Int) (v:Nat):Prop:=∃ b c d,b < N ∧ c < N ∧ d < N ∧ Sk1 Q N cs v b c d
def RtN (Q:Nat → Bool) (N:Nat) (cs:Nat → Int) (v:Nat):Prop:=∀ u,u < N → Q (u * N + v) = true → cs u ≠ cs v
def ptQ (Q:Nat → Bool) (N:Nat) (cs:Nat → Int) (x:Nat):Bool:=decide (0 ≤ cs (x / N)) && (decide (0 ≤ cs (x % N)) && Q x)
def RtS (Q:Nat → Bool) (N:Nat) (cs:Nat → Int) (v:Nat):Prop:=RtN Q N cs v ∧ ¬ SkP (ptQ Q N cs) N cs v
def RtA (Q:Nat → Bool) (N:Nat) (cs:Nat → Int) (v:Nat):Prop:=RtN Q N cs v ∧ ∀ u,u < N → ptQ Q N cs (u * N + v) = true → FoP (adQ (ptQ Q N cs) N) (fun x => x < N ∧ twB cs (cs u) (cs v) x = true)
theorem updC_same (cs:Nat → Int) (v y:Nat):updC cs v y v = (y:Int):=by simp [updC]
theorem updC_other (cs:Nat → Int) {v u:Nat} (y:Nat) (h:u ≠ v):updC cs v y u = cs u:=by simp [updC,h]
theorem row_nat {S C:List Int} {m v:Nat} {u:Int} (hm:MayP (m:Int) (m:Int) S C) (hv:v < m) (hu:u ∈ rowL S C v):∃ x:Nat,u = (x:Int) ∧ x < m ∧ adG S C m v x:=by
 obtain ⟨i,hi,he⟩:=mem_getD.1 hu
 obtain ⟨x,h1,h2⟩:=row_atF hm hv hi
 have e:u = (x:Int):=by rw [← he,h1]
 subst e
 exact ⟨x,rfl,h2,(ad_row hm hv).2 hu⟩
section
variable {S C:List Int} {m:Nat} {Q:Nat → Bool} {cs:Nat → Int} {v y:Nat}
theorem barN_ad (hm:MayP (m:Int) (m:Int) S C) (hv:v < m):BarN S C cs v y ↔ ∃ u,adG S C m v u ∧ cs u = (y:Int):=by
 constructor
 ·rintro ⟨u,hu,e⟩
  obtain ⟨x,rfl,hx,ha⟩:=row_nat hm hv hu
  exact ⟨x,ha,by simpa using e⟩
 ·rintro ⟨u,ha,e⟩
  exact ⟨(u:Int),(ad_row hm hv).1 ha,by simpa using e⟩
theorem barP_ad (hm:MayP (m:Int) (m:Int) S C) (hv:v < m):BarP S C cs v y ↔ (BarN S C cs v y ∨ ∃ b c d,adG S C m v b ∧ cs b ≠ -1 ∧ adG S C m b c ∧ cs c = (y:Int) ∧ d ≠ b ∧ (adG S C m v d ∨ adG S C m c d) ∧ cs d = cs b):=by
 unfold BarP
 refine or_congr Iff.rfl ?_
 constructor
 ·rintro ⟨p,hp,x,hx,e,ht⟩
  have hb:=cldL_mem.1 (mem_getD.2 ⟨p,hp,rfl⟩)
  obtain ⟨b,eb,hbm,hab⟩:=row_nat hm hv hb.1
  rw [eb] at hx ht hb
  simp only [Int.toNat_natCast] at hx ht hb
  obtain ⟨c,rfl,hcm,hac⟩:=row_nat hm hbm (cldL_mem.1 hx).1
  simp only [Int.toNat_natCast] at e ht
  have key:∀ z,z < m → TwP cs (rowL S C z) b → ∃ d,d ≠ b ∧ adG S C m z d ∧ cs d = cs b:=by
   rintro z hz ⟨t,ht,h1,h2⟩
   obtain ⟨d,rfl,hdm,had⟩:=row_nat hm hz ht
   exact ⟨d,by omega,had,by simpa using h2⟩
  rcases ht with ht | ht
  ·obtain ⟨d,h1,h2,h3⟩:=key v hv ht
   exact ⟨b,c,d,hab,hb.2,hac,e,h1,.inl h2,h3⟩
  ·obtain ⟨d,h1,h2,h3⟩:=key c hcm ht
   exact ⟨b,c,d,hab,hb.2,hac,e,h1,.inr h2,h3⟩
 ·rintro ⟨b,c,d,hab,hcb,hac,e,hne,ht,hd⟩
  have hb:(b:Int) ∈ cldL cs (rowL S C v):=cldL_mem.2 ⟨(ad_row hm hv).1 hab,by simpa using hcb⟩
  obtain ⟨p,hp,he⟩:=mem_getD.1 hb
  refine ⟨p,hp,(c:Int),?_,by simpa using e,?_⟩
  ·rw [he]
   simp only [Int.toNat_natCast]
   exact cldL_mem.2 ⟨(ad_row hm hab.2.1).1 hac,by simp only [Int.toNat_natCast]; omega⟩
  ·rw [he]
   simp only [Int.toNat_natCast]
   rcases ht with ht | ht
   ·exact .inl ⟨(d:Int),(ad_row hm hv).1 ht,by omega,by simpa using hd⟩
   ·exact .inr ⟨(d:Int),(ad_row hm hac.2.1).1 ht,by omega,by simpa using hd⟩
def AcyC (S C:List Int) (m:Nat) (cs:Nat → Int):Prop:=∀ c d:Int,0 ≤ c → 0 ≤ d → FoP (adG S C m) (TwC cs m c d)
theorem add_fo (hm:MayP (m:Int) (m:Int) S C) (hg:GraP S C m m) (hv:v < m) (hvc:cs v = -1) (hA:AcyC S C m cs) (hb:¬ BarA S C m cs v y) (c:Int) (hc:0 ≤ c):FoP (adG S C m) (fun u => TwC cs m c (y:Int) u ∨ u = v):=by
 refine (forest_add (n:=0) (adG.ir hg) (adG.sy hg) ⟨List.range m,fun x hx => List.mem_range.2 hx.1⟩ (hA c y hc (by omega)) (fun h => ?_)).2 (fun a b hav hbv w => ?_)
 ·rcases h.2 with h | h <;> omega
 ·apply Classical.byContradiction
  intro hab
  have key:∀ x,adG S C m x v → TwC cs m c (y:Int) x → cs x = c:=fun x hx ht => ht.2.elim id (fun e => absurd (.inl ((barN_ad hm hv).2 ⟨x,adG.sy hg _ _ hx,e⟩)) hb)
  have e1:=key a hav w.first
  have e2:=key b hbv w.last
  refine hb (.inr ⟨a,b,c.toNat,hab,adG.sy hg _ _ hav,adG.sy hg _ _ hbv,by omega,by omega,?_⟩)
  rw [show ((c.toNat:Nat):Int) = c by omega]
  exact w
theorem TwC.upd (c:Int) (hvm:v < m) (hvc:cs v = -1) (hc:0 ≤ c) (x:Nat):TwC (updC cs v y) m c (y:Int) x ↔ (TwC cs m c (y:Int) x ∨ x = v):=by
 unfold TwC
 by_cases e:x = v
 ·subst e
  rw [updC_same]
  exact ⟨fun _ => .inr rfl,fun _ => ⟨hvm,.inr rfl⟩⟩
 ·rw [updC_other _ _ e]
  exact ⟨fun h => .inl h,fun h => h.elim id (fun h => absurd h e)⟩
theorem AcyC.next (hm:MayP (m:Int) (m:Int) S C) (hg:GraP S C m m) (hv:v < m) (hvc:cs v = -1) (hA:AcyC S C m cs) (hb:¬ BarA S C m cs v y):AcyC S C m (updC cs v y):=by
 intro c d hc hd
 by_cases e1:d = (y:Int)
 ·subst e1
  exact (FoP.iff (TwC.upd c hv hvc hc)).2 (add_fo hm hg hv hvc hA hb c hc)
 ·by_cases e2:c = (y:Int)
  ·subst e2
   exact (FoP.iff (fun x => ⟨fun h => h.swap,fun h => h.swap⟩)).2 ((FoP.iff (TwC.upd d hv hvc hd)).2 (add_fo hm hg hv hvc hA hb d hd))
  ·refine (FoP.iff (fun x => ?_)).2 (hA c d hc hd)
   unfold TwC
   by_cases e:x = v
   ·subst e
    rw [updC_same,hvc]
    exact ⟨fun h => h.2.elim (fun h => absurd h.symm e2) (fun h => absurd h.symm e1),fun h => h.2.elim (fun h => by omega) (fun h => by omega)⟩
   ·rw [updC_other _ _ e]
end
def PntG (L:(Nat → Int) → Nat → Nat → Prop) (xs:List Int):Nat → (Nat → Int) → Prop
 | 0,cs => cs = fun _ => -1
 | k + 1,cs => ∃ cs0 y,PntG L xs k cs0 ∧ L cs0 (xs.getD k 0).toNat y ∧ cs = updC cs0 (xs.getD k 0).toNat y
theorem PntN.g {st cols xs:List Int}:∀ {k:Nat} {cs:Nat → Int},PntN st cols xs k cs ↔ PntG (LstN st cols) xs k cs
 | 0,_ => Iff.rfl
 | k + 1,cs => by
  unfold PntN PntG
  exact ⟨fun ⟨c,y,h1,h2⟩ => ⟨c,y,PntN.g.1 h1,h2⟩,fun ⟨c,y,h1,h2⟩ => ⟨c,y,PntN.g.2 h1,h2⟩⟩
theorem PntI.g {st cols xs:List Int}:∀ {k:Nat} {cs:Nat → Int},PntI st cols xs k cs ↔ PntG (LstP st cols) xs k cs
 | 0,_ => Iff.rfl
 | k + 1,cs => by
  unfold PntI PntG
  exact ⟨fun ⟨c,y,h1,h2⟩ => ⟨c,y,PntI.g.1 h1,h2⟩,fun ⟨c,y,h1,h2⟩ => ⟨c,y,PntI.g.2 h1,h2⟩⟩
theorem PntA.g {st cols xs:List Int} {R:Nat}:∀ {k:Nat} {cs:Nat → Int},PntA st cols R xs k cs ↔ PntG (LstA st cols R) xs k cs
 | 0,_ => Iff.rfl
 | k + 1,cs => by
  unfold PntA PntG
  exact ⟨fun ⟨c,y,h1,h2⟩ => ⟨c,y,PntA.g.1 h1,h2⟩,fun ⟨c,y,h1,h2⟩ => ⟨c,y,PntA.g.2 h1,h2⟩⟩
theorem PntG.fresh {L:(Nat → Int) → Nat → Nat → Prop} {xs:List Int} {v:Nat}:∀ {k:Nat} {cs:Nat → Int},PntG L xs k cs → (∀ j,j < k → (xs.getD j 0).toNat ≠ v) → cs v = -1
 | 0,cs,h,_ => by unfold PntG at h; rw [h]
 | k + 1,cs,⟨c,y,h1,_,h3⟩,hn => by
  rw [h3,updC_other _ _ (fun e => hn k (by omega) e.symm)]
  exact PntG.fresh h1 (fun j hj => hn j (by omega))
theorem PntG.one {L:(Nat → Int) → Nat → Nat → Prop} {xs:List Int} (hL:∀ cs v y z,L cs v y → L cs v z → y = z):∀ {k:Nat} {cs ds:Nat → Int},PntG L xs k cs → PntG L xs k ds → cs = ds
 | 0,_,_,h,g => by unfold PntG at h g; rw [h,g]
 | k + 1,_,_,⟨c,y,h1,h2,h3⟩,⟨d,x,g1,g2,g3⟩ => by
  have e:=PntG.one hL h1 g1
  subst e
  have e:=hL _ _ _ _ h2 g2
  subst e
  rw [h3,g3]
theorem least_ex {B:Nat → Prop}:∀ {k:Nat},¬ B k → ∃ y,y ≤ k ∧ ¬ B y ∧ ∀ j,j < y → B j:=by
 intro k
 induction k using Nat.strongRecOn with
 | _ k ih =>
  intro hk
  by_cases h:∃ j,j < k ∧ ¬ B j
  ·obtain ⟨j,hj,hb⟩:=h
   obtain ⟨y,h1,h2⟩:=ih j hj hb
   exact ⟨y,by omega,h2⟩
  ·exact ⟨k,Nat.le_refl _,hk,fun j hj => Classical.byContradiction (fun hb => h ⟨j,hj,hb⟩)⟩
structure PnX (RT:(Nat → Int) → Nat → Prop) (xs:List Int) (m:Nat) (P:Nat → (Nat → Int) → Prop):Prop where
 zero:P 0 (fun _ => -1)
 next:∀ k cs,k < m → P k cs → ∃ y,y ≤ k ∧ RT (updC cs (xs.getD k 0).toNat y) (xs.getD k 0).toNat ∧ (∀ j,j < y → ¬ RT (updC cs (xs.getD k 0).toNat j) (xs.getD k 0).toNat) ∧ P (k + 1) (updC cs (xs.getD k 0).toNat y)
 rng:∀ k cs,k ≤ m → P k cs → ∀ i,-1 ≤ cs i ∧ cs i < (k:Int)
 fresh:∀ k cs,k < m → P k cs → cs (xs.getD k 0).toNat = -1
theorem ord_fresh {xs:List Int} {m k:Nat} (ho:OrdTo xs m m) (hk:k < m):∀ j,j < k → (xs.getD j 0).toNat ≠ (xs.getD k 0).toNat:=fun j hj e => by
 have h1:=ho.rng j (by omega)
 have h2:=ho.rng k hk
 exact ho.one j k hj hk (by omega)
section
variable {S C xs:List Int} {m:Nat} {Q:Nat → Bool}
theorem PntA.acy (hm:MayP (m:Int) (m:Int) S C) (hg:GraP S C m m) (ho:OrdTo xs m m):∀ {k:Nat} {cs:Nat → Int},k ≤ m → PntA S C m xs k cs → AcyC S C m cs
 | 0,cs,_,h => by
  unfold PntA at h
  subst h
  exact fun c d hc hd T hT _ v hv => by
   have:=(hT v hv).2
   simp only at this
   omega
 | k + 1,_,hk,⟨c,y,h1,h2,h3⟩ => by
  subst h3
  have hv:(xs.getD k 0).toNat < m:=by have:=ho.rng k (by omega); omega
  exact (PntA.acy hm hg ho (by omega) h1).next hm hg hv ((PntA.g.1 h1).fresh (ord_fresh ho (by omega))) h2.may
end
set_option maxRecDepth 100000 in
set_option maxHeartbeats 16000000 in
theorem wisOrder_any (a:Option Addr) (m c:Nat) (xs:List Int) (n:Nat) (w:World) (h:SlI w a m c xs) (hm:m ≤ 17592186044416) (hn:n ≤ 128) (ok:Bool) (hok:TruQ ok (IsOrd xs n)) :
  Calls Tryz.prog 22 #[.slice a m c,.int .i64 (n:Int)] w fun e w' => e = .returned (.bool ok) ∧ Below w.heap.size w w':=by
 have HS:=Hj h
 have HOK:=Hj hok
 have hml:=h.len
 by_cases hne:m = n
 ·subst hne
  have tn:((m:Int) != (m:Int)) = false:=by simp
  have hmk:=make_boolsP m (by omega) w
  have hR:=RoV.made w m 4 (.bool false)
  obtain ⟨wm,hwm⟩:∃ x,w.alloc (.cells (madeCells #[.bool false] m) 4) = x:=⟨_,rfl⟩
  have bm:Below w.heap.size w wm:=by rw [← hwm]; exact bAl
  rw [hwm] at hmk hR
  obtain ⟨g,hg⟩:∃ g,w.heap.size = g:=⟨_,rfl⟩
  have HB:=Hj bm
  have HG:=Hj hg
  rw [hg] at hmk hR
  have HR0:=Hj hR
  have HS3:=Hj ((Uh HS).below bm)
  have HLW:=Hj (show xs ≠ [] → ∀ z,a = some z → z.block ≠ g from fun hne z hz e => by have:=(Uh HS).block_lt hne z hz; omega)
  clear h hok hml bm hR hwm
  go_enter Tryz.func22,Tryz.ntmps22
  go_wp2_with fail
  go_loopw [6,18] (fun kv _ wr => ∃ k:Nat,k ≤ m ∧ kv = .int .i64 (k:Int) ∧ Hid (RoV wr g m (fun v => .bool (posI xs k v != -1))) ∧ Hid (OrdTo xs m k) ∧ Hid (Chg (fun j => j = g) wm wr)) (fun kv _ _ => m - (intOf kv).toNat)
  case atStart => exact ⟨0,Nat.zero_le _,rfl,Hj ((Uh HR0).congr (fun i _ => by simp [posI])),Hj ⟨fun j hj => by omega,fun i j _ hj => by omega⟩,Hj (Chg.refl _ _)⟩
  case round =>
   obtain ⟨k,hk,rfl,HR,HO,HC⟩:=hrel
   by_cases hlt:k < m
   ·have hlt':(k:Int) < (m:Int):=by omega
    have hsl:=(Uh HS3).chg (Uh HC) (fun z hz hne => Uh HLW hne z hz)
    obtain ⟨b,off,rfl,hc⟩:=hsl.at (by omega)
    have sk:=hc k hlt
    have hbg:b ≠ g:=Uh HLW (fun e => by have:=(Uh HS).len; rw [e] at this; simp at this; omega) _ rfl
    obtain ⟨x,hx⟩:∃ x,xs.getD k 0 = x:=⟨_,rfl⟩
    rw [hx] at sk
    have HX:=Hj hx
    clear hc hsl hx hmk
    by_cases hx0:x < 0
    ·have HNO:=Hj (show ¬ OrdTo xs m m from fun h => by have:=(h.rng k hlt).1; rw [Uh HX] at this; omega)
     have hokf:ok = false:=by
      cases hk2:ok
      ·rfl
      ·exact absurd (Iff.mp (Uh HOK) hk2).2 (Uh HNO)
     subst hokf
     go_wp2_with fail
     try go_ret
     exact ⟨rfl,by have h9:=(Uh HB).trans ((Uh HC).below (Uh HB).size (fun j hj e => by have:=Uh HG; omega)); first | exact h9 | (rw [Uh HG] at h9; exact h9)⟩
    ·by_cases hxm:(m:Int) ≤ x
     ·have HNO:=Hj (show ¬ OrdTo xs m m from fun h => by have:=(h.rng k hlt).2; rw [Uh HX] at this; omega)
      have hokf:ok = false:=by
       cases hk2:ok
       ·rfl
       ·exact absurd (Iff.mp (Uh HOK) hk2).2 (Uh HNO)
      subst hokf
      go_wp2_with fail
      try go_ret
      exact ⟨rfl,by have h9:=(Uh HB).trans ((Uh HC).below (Uh HB).size (fun j hj e => by have:=Uh HG; omega)); first | exact h9 | (rw [Uh HG] at h9; exact h9)⟩
     ·obtain ⟨v,hv⟩:∃ v:Nat,x = (v:Int):=⟨x.toNat,by omega⟩
      subst hv
      have hvm:v < m:=by omega
      have hvm':(v:Int) < (m:Int):=by omega
      have hc1:=(Uh HR v hvm).1
      have hc2:=(Uh HR v hvm).2
      obtain ⟨p,hp⟩:∃ p,(posI xs k v != -1) = p:=⟨_,rfl⟩
      simp only [hp] at hc1
      have HPP:=Hj hp
      clear hp
      cases p
      ·have hq:posI xs k v = -1:=by have:=Uh HPP; simpa using this
       have HN:=Hj (OrdTo.next (Uh HO) (Uh HX) hvm hq)
       have HN2:=Hj (show RoV (wr.setCell ⟨g,v,none⟩ (.bool true)) g m (fun u => .bool (posI xs (k + 1) u != -1)) from ((Uh HR).put v (.bool true) hvm).congr (fun u hu => by
        simp only [posI,Uh HX]
        by_cases e:u = v
        ·subst e; simp
        ·rw [if_neg e,if_neg (by omega)]))
       have HN3:=Hj (show Chg (fun j => j = g) wm (wr.setCell ⟨g,v,none⟩ (.bool true)) from (Uh HC).trans (Chg.of_set _ _ _ _ rfl))
       clear hq
       go_wp2_with fail
       exact ⟨⟨k + 1,by omega,by (first | rfl | go_num),HN2,HN,HN3⟩,by simp [intOf]; omega⟩
      ·have HNO:=Hj (OrdTo.no (n:=m) hlt (Uh HX) (fun e => by have:=Uh HPP; rw [e] at this; simp at this))
       have hokf:ok = false:=by
        cases hk2:ok
        ·rfl
        ·exact absurd (Iff.mp (Uh HOK) hk2).2 (Uh HNO)
       subst hokf
       go_wp2_with fail
       try go_ret
       exact ⟨rfl,by have h9:=(Uh HB).trans ((Uh HC).below (Uh HB).size (fun j hj e => by have:=Uh HG; omega)); first | exact h9 | (rw [Uh HG] at h9; exact h9)⟩
   ·obtain rfl:k = m:=by omega
    have hlt':¬ (k:Int) < (k:Int):=by omega
    have hokt:ok = true:=Iff.mpr (Uh HOK) ⟨(Uh HS).len,Uh HO⟩
    subst hokt
    clear hmk
    go_wp2_with fail
    try go_ret
    exact ⟨rfl,by have h9:=(Uh HB).trans ((Uh HC).below (Uh HB).size (fun j hj e => by have:=Uh HG; omega)); first | exact h9 | (rw [Uh HG] at h9; exact h9)⟩
 ·have hne1:((m:Int) != (n:Int)) = true:=by simp; omega
  have hokf:ok = false:=by
   cases hk:ok
   ·rfl
   ·have:=(Iff.mp hok hk).1
    omega
  subst hokf
  clear h hok hml hne
  go_enter Tryz.func22,Tryz.ntmps22
  go_wp2_with fail
  try go_ret
  exact ⟨rfl,Below.refl _ _⟩
end Go.Proofs.YtgjokididdffhaaGreat
