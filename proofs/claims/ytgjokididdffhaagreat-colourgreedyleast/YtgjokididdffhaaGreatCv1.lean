/- Chl -/
import Derived.Test.YtgjokididdffhaaGreatChe
import Derived.Test.YtgjokididdffhaaGreatCh8
import Derived.Test.YtgjokididdffhaaGreatChd
import Derived.Lib.SlicesCompact
namespace Go.Proofs.YtgjokididdffhaaGreat
open Go.RowKit Go.Deep
set_option linter.unusedVariables false
def BarN (st cols:List Int) (cs:Nat → Int) (v k:Nat):Prop:=∃ u ∈ rowL st cols v,cs u.toNat = (k:Int)
theorem BarN.used {st cols:List Int} {cs:Nat → Int} {R v k:Nat} (hm:MayP (R:Int) (R:Int) st cols) (hv:v < R) (h:BarN st cols cs v k):∃ i,i < R ∧ cs i = (k:Int):=BarP.used hm hv (.inl h)
structure FrN (w w':World) (e:Ending) (X R:Nat) (vs:List Value) (b1:Option Addr) (m1 d1:Nat) (b2:Option Addr) (m2 d2:Nat) (g h cnt:Nat) (cs:Nat → Int) (st cols:List Int) (v:Nat) (z:Nat) (a:Option Addr) (c:Nat) (ls':Nat → Int):Prop where
 num:NumC (csL cs R) (z:Int)
 ret:e = .returned (.slice a (grR (fun _ j => ¬ BarN st cols cs v j) 0 (z + 1)).length c)
 sl:SlI w' a (grR (fun _ j => ¬ BarN st cols cs v j) 0 (z + 1)).length c (grR (fun _ j => ¬ BarN st cols cs v j) 0 (z + 1))
 new:∀ x,a = some x → w.heap.size ≤ x.block
 bru:BrI w' X R (vs.set 14 (.int .i64 ((cnt + 1:Nat):Int))) b1 m1 d1 b2 m2 d2 g h (cnt + 1) cs ls' st cols
 le:∀ j,j < R → ls' j ≤ ((cnt + 1:Nat):Int)
 chg:Chg (fun j => j = h ∨ j = X) w w'
set_option maxRecDepth 100000 in
set_option maxHeartbeats 16000000 in
theorem cfree_nb (X R:Nat) (vs:List Value) (b1:Option Addr) (m1 d1:Nat) (b2:Option Addr) (m2 d2:Nat) (g h cnt:Nat) (cs ls:Nat → Int) (st cols:List Int) (v k:Nat) (w:World) (hB:BrI w X R vs b1 m1 d1 b2 m2 d2 g h cnt cs ls st cols) (hm:MayP (R:Int) (R:Int) st cols) (hv:v < R) (hb1:m1 ≤ 17592186044000) (hb2:m2 ≤ 17592186044000) (hcs:∀ i,i < R → -1 ≤ cs i ∧ cs i < (k:Int)) (hk:k < R) (hls:∀ j,j < R → ls j ≤ (cnt:Int)) (hcn:cnt ≤ 1000000) (hf:vs[2]? = some (.func (.func 93) #[] #[])) :
  Calls Tryz.prog 66 #[.pointer (some ⟨X,0,none⟩),.int .i64 (v:Int)] w fun e w' => ∃ z a c ls',FrN w w' e X R vs b1 m1 d1 b2 m2 d2 g h cnt cs st cols v z a c ls':=by
 have hR8:R ≤ 128:=by have:=hm.head.fit; omega
 have q14:=(hB.box.all 14 _ hB.v14).1
 have r14:=(hB.box.all 14 _ hB.v14).2
 have KD:=Hj (cdrop_any X 14 cnt w q14 r14 (by omega))
 have hB1:=hB.drop (cnt + 1)
 have c1:Chg (fun j => j = h ∨ j = X) w (w.setCell ⟨X,14,none⟩ (.int .i64 ((cnt + 1:Nat):Int))):=Chg.of_set _ _ _ _ (.inr rfl)
 have q2:=(hB1.box.all 2 _ (by rw [List.getElem?_set_ne (by omega)]; exact hf)).1
 have KP:=Hj (cbarN_any X R _ b1 m1 d1 b2 m2 d2 g h (cnt + 1) cs ls st cols v _ hB1 hm hv hb1 hb2 (fun i hi => ⟨(hcs i hi).1,by have:=(hcs i hi).2; omega⟩) (fun j hj => by have:=hls j hj; omega))
 have HC:=Hj hcs
 have HM:=Hj hm
 have HL:=Hj hls
 have HC1:=Hj c1
 have HF:=Hj hf
 clear hcs hm hls hB hB1 c1 hf q14 r14
 go_enter Tryz.func66,Tryz.ntmps66
 go_wp2_with fail
 refine (Uh KD).mono ?_
 rintro _ w1 ⟨⟨z0,rfl⟩,hw1⟩
 rw [← hw1] at q2 KP HC1
 clear KD hw1
 go_wp2_with fail
 refine (Uh KP).mono ?_
 rintro _ w2 ⟨⟨z1,rfl⟩,ls',hB2,hM2,hC2⟩
 have KN:=Hj (cnumber_any (some ⟨g,0,none⟩) R R (csL cs R) w2 (hB2.col.sli hR8) hR8 (fun i hi => by rw [csL_get hi]; have:=(Uh HC i hi).2; omega) (fun e => by cases e))
 have q13:=(hB2.box.all 13 _ hB2.v13).1
 have HB2:=Hj hB2
 have HMK:=Hj (show ∀ j,j < R → (ls' j = ((cnt + 1:Nat):Int) ↔ BarN st cols cs v j) from fun j hj => by
  rw [hM2.iff j hj]
  have:=Uh HL j hj
  exact ⟨fun z => z.elim (fun z => by omega) id,.inr⟩)
 have HLE:=Hj hM2.le
 have HC2:=Hj ((Uh HC1).trans (hC2.mono (fun j _ e => .inl e)))
 clear KP hB2 hM2 hC2 HC1 q2
 go_wp2_with fail
 refine (Uh KN).mono ?_
 rintro _ w3 ⟨zi,rfl,hN,b3⟩
 obtain ⟨hz0,hzk,_⟩:=numC_rng hN (Uh HC)
 obtain ⟨z,rfl⟩:∃ z:Nat,zi = (z:Int):=⟨zi.toNat,by omega⟩
 have hw7:IntKind.i64.wrap ((z:Int) + 1) = (z:Int) + 1:=by rw [wrap_i64n]; omega
 have HN:=Hj hN
 have HB3:=Hj ((Uh HB2).below b3)
 have HC3:=Hj ((Uh HC2).trans (Chg.of_below b3))
 have hzR:z < R:=by omega
 obtain ⟨P,hP⟩:∃ P:Nat → Nat → Prop,P = (fun _ j => ¬ BarN st cols cs v j):=⟨_,rfl⟩
 have HP:=Hj hP
 obtain ⟨i64,hi,hz,hs,hb⟩:=info_parts Tryz.info_i64
 have HI:=Hj (And.intro hi (And.intro hz (And.intro hs hb)))
 have hone:∀ y:Int,∀ z ∈ [Value.int .i64 y],z.oneCell' = true:=by intro y z hz; simp at hz; subst hz; rfl
 clear KN HB2 HC2 hN b3 hz0 hzk q13 hP hi hz hs hb
 go_wp2_with fail
 go_loopw [26,5] (fun kv lv wr => ∃ j:Nat,j ≤ z + 1 ∧ kv = .int .i64 (j:Int) ∧ Hid (wr.ownsRow w3.heap.size 3 1 lv (grR P 0 j).length (valsI (grR P 0 j))) ∧ Hid (Below w3.heap.size w3 wr)) (fun kv _ _ => z + 1 - (intOf kv).toNat)
 case atStart => exact ⟨0,Nat.zero_le _,rfl,Hj (by simpa [grR,valsI] using World.ownsRow_nil w3 w3.heap.size 3 1),Hj (Below.refl _ _)⟩
 case round =>
  obtain ⟨j,hj,rfl,HO,HW⟩:=hrel
  by_cases hlt:j < z + 1
  ·have hlt':(j:Int) < (z:Int) + 1:=by omega
   have hjR:j < R:=by omega
   have hbr:=(Uh HB3).below (Uh HW)
   have q14:=(hbr.box.all 14 _ hbr.v14).1
   have q15:=(hbr.box.all 15 _ hbr.v15).1
   have KH:=Hj (chas_any X 14 h R ((cnt + 1:Nat):Int) j (ls' j) wr q14 q15 hjR hR8 (hbr.last j hjR).1)
   have hcl:(grR P 0 j).length ≤ 128:=by have:=grR_len P 0 j; omega
   have hIF:=Uh HMK j hjR
   clear hbr q14 q15
   by_cases hbp:BarN st cols cs v j
   ·have he:(ls' j == ((cnt + 1:Nat):Int)) = true:=by rw [hIF.2 hbp]; simp
    rw [he] at KH
    have HN1:=Hj (show grR P 0 (j + 1) = grR P 0 j from by
     have ht:tb (P 0 j) = false:=by rw [Uh HP]; simp [tb,hbp]
     simp [grR,ht])
    clear he hIF hbp
    go_wp2_with fail
    refine (Uh KH).mono ?_
    rintro _ w4 ⟨rfl,b4⟩
    have HB4:=Hj ((Uh HW).trans (b4.mono (Uh HW).size))
    have HO4:=Hj (show w4.ownsRow w3.heap.size 3 1 u5 (grR P 0 (j + 1)).length (valsI (grR P 0 (j + 1))) from by rw [Uh HN1]; exact ownsRow_chg (S:=fun _ => False) (Uh HO) (Chg.of_below b4) (fun _ _ x => x))
    clear KH b4
    go_wp2_with fail
    exact ⟨⟨j + 1,by omega,by (first | rfl | go_num),HO4,HB4⟩,by simp [intOf]; omega⟩
   ·have he:(ls' j == ((cnt + 1:Nat):Int)) = false:=by
     rw [Bool.eq_false_iff]; intro e; exact hbp (hIF.1 (by simpa using e))
    rw [he] at KH
    have HN1:=Hj (show grR P 0 (j + 1) = grR P 0 j ++ [(j:Int)] from by
     have ht:tb (P 0 j) = true:=by rw [Uh HP]; simp [tb,hbp]
     simp [grR,ht])
    clear he hIF hbp
    go_wp2_with fail
    refine (Uh KH).mono ?_
    rintro _ w4 ⟨rfl,b4⟩
    have HB4:=Hj ((Uh HW).trans (b4.mono (Uh HW).size))
    obtain ⟨C,hC⟩:∃ C,grR P 0 j = C:=⟨_,rfl⟩
    rw [hC] at HO hcl HN1
    have HO4:=Hj (ownsRow_chg (S:=fun _ => False) (Uh HO) (Chg.of_below b4) (fun _ _ x => x))
    have hmx:C.length + 1 ≤ maxLen:=by unfold maxLen; omega
    have hby:(C.length + 1) * 8 ≤ 140737488355328:=by omega
    have hsz:=(Uh HB4).size
    clear hC KH b4 HO
    go_wp2_with (at_builtin; refine wpList_append_lies _ rfl _ _ 23 rfl w3.heap.size 3 i64 (.int .i64 0) 1 8 Tryz.underlying23 (Uh HI).1 (Uh HI).2.1 (Uh HI).2.2.1 (Uh HI).2.2.2 rfl (by decide) u5 C.length (valsI C) rfl ((Uh HO4).alloc _) ⟨w4.heap.size,0,none⟩ 1 1 [.int .i64 (j:Int)] rfl rfl (World.news_of_block (alloc_block _ _)) (hone _) (by decide) hmx hby (by simp; omega) (w4.heap.size + 1) (by simp) ?_)
    intro g2 cap w5 hown hgr hat hlt5
    have hB5:Below w3.heap.size w3 w5:=((Uh HB4).trans (((Below.refl w3.heap.size w4).alloc hsz _))).grown hgr (by simp; omega) (fun j hj => (own_ge (Uh HO4) j hj).1)
    have HN:=Hj (show w5.ownsRow w3.heap.size 3 1 (.slice (some ⟨g2,0,none⟩) (C.length + 1) cap) (grR P 0 (j + 1)).length (valsI (grR P 0 (j + 1))) from by
     rw [Uh HN1]
     simpa [valsI] using hown)
    have HB5:=Hj hB5
    clear hown hgr hat hlt5 hB5
    go_wp2_with fail
    exact ⟨⟨j + 1,by omega,by (first | rfl | go_num),HN,HB5⟩,by simp [intOf]; omega⟩
  ·obtain rfl:j = z + 1:=by omega
   have hlt':¬ ((z + 1:Nat):Int) < (z:Int) + 1:=by omega
   obtain ⟨a,c,hv',hs'⟩:=own_slI (Uh HO)
   have HNEW:=Hj (show ∀ z,a = some z → w3.heap.size ≤ z.block from fun z hz => (own_ge (Uh HO) z.block (by rw [hv',hz]; rfl)).1)
   have HSS:=Hj hs'
   subst hv'
   clear hs' HO
   go_wp2_with fail
   try go_ret
   have hP:=Uh HP
   subst hP
   exact ⟨z,a,c,ls',Uh HN,rfl,Uh HSS,fun x hx => Nat.le_trans (Uh HC3).size (Uh HNEW x hx),(Uh HB3).below (Uh HW),Uh HLE,(Uh HC3).trans (Chg.of_below (Uh HW))⟩
structure LstN (st cols:List Int) (cs:Nat → Int) (v y:Nat):Prop where
 may:¬ BarN st cols cs v y
 bar:∀ j,j < y → BarN st cols cs v j
theorem LstN.one {st cols:List Int} {cs:Nat → Int} {v y x:Nat} (h:LstN st cols cs v y) (k:LstN st cols cs v x):y = x:=by
 rcases Nat.lt_trichotomy y x with c | c | c
 ·exact absurd (k.bar y c) h.may
 ·exact c
 ·exact absurd (h.bar x c) k.may
def PntN (st cols xs:List Int):Nat → (Nat → Int) → Prop
 | 0,cs => cs = fun _ => -1
 | k + 1,cs => ∃ cs0 y,PntN st cols xs k cs0 ∧ LstN st cols cs0 (xs.getD k 0).toNat y ∧ cs = updC cs0 (xs.getD k 0).toNat y
theorem PntN.one {st cols xs:List Int}:∀ {k:Nat} {cs ds:Nat → Int},PntN st cols xs k cs → PntN st cols xs k ds → cs = ds
 | 0,_,_,h,g => by unfold PntN at h g; rw [h,g]
 | k + 1,_,_,⟨c,y,h1,h2,h3⟩,⟨d,x,g1,g2,g3⟩ => by
  have e:=PntN.one h1 g1
  subst e
  have e:=h2.one g2
  subst e
  rw [h3,g3]
theorem PntN.rng {R n:Nat} {st cols xs:List Int} (hm:MayP (R:Int) (R:Int) st cols) (hx:∀ i,i < n → 0 ≤ xs.getD i 0 ∧ xs.getD i 0 < (R:Int)):∀ {k:Nat} {cs:Nat → Int},k ≤ n → PntN st cols xs k cs → ∀ i,-1 ≤ cs i ∧ cs i < (k:Int)
 | 0,cs,_,h,i => by unfold PntN at h; subst h; simp
 | k + 1,cs,hk,⟨c,y,h1,h2,h3⟩,i => by
  have ih:=PntN.rng hm hx (by omega) h1
  subst h3
  unfold updC
  split
  ·cases y with
   | zero => omega
   | succ j =>
    obtain ⟨i',_,he⟩:=(h2.bar j (by omega)).used hm (by have:=hx k (by omega); omega)
    have:=ih i'
    omega
  ·have:=ih i
   omega
theorem FrN.head {w w':World} {e:Ending} {X R:Nat} {vs:List Value} {b1:Option Addr} {m1 d1:Nat} {b2:Option Addr} {m2 d2 g h cnt:Nat} {cs:Nat → Int} {st cols:List Int} {v z:Nat} {a:Option Addr} {c:Nat} {ls':Nat → Int} (k:FrN w w' e X R vs b1 m1 d1 b2 m2 d2 g h cnt cs st cols v z a c ls') (hm:MayP (R:Int) (R:Int) st cols) (hv:v < R) (hc:∀ i,i < R → -1 ≤ cs i ∧ cs i < (R:Int)):∃ y:Nat,(grR (fun _ j => ¬ BarN st cols cs v j) 0 (z + 1)).getD 0 0 = (y:Int) ∧ 0 < (grR (fun _ j => ¬ BarN st cols cs v j) 0 (z + 1)).length ∧ LstN st cols cs v y:=by
 rcases grR_head (P:=fun _ j => ¬ BarN st cols cs v j) (u:=0) (z + 1) with ⟨_,h2⟩ | ⟨y,h1,h2,h3,h4⟩
 ·exfalso
  refine h2 z (by omega) (fun hb => ?_)
  obtain ⟨i,hi,he⟩:=hb.used hm hv
  have:=(numC_rng k.num hc).2.2 i hi
  omega
 ·exact ⟨y,h1,h2,h3,fun j hj => Classical.byContradiction (h4 j hj)⟩
structure FhN (w w':World) (e:Ending) (X R:Nat) (vs:List Value) (b1:Option Addr) (m1 d1:Nat) (b2:Option Addr) (m2 d2:Nat) (g h cnt:Nat) (cs:Nat → Int) (st cols:List Int) (v:Nat) (y b off m c:Nat) (ls':Nat → Int):Prop where
 ret:e = .returned (.slice (some ⟨b,off,none⟩) m c)
 pos:0 < m
 cell:w'.cell? ⟨b,off,none⟩ = some (.int .i64 (y:Int))
 lst:LstN st cols cs v y
 bru:BrI w' X R (vs.set 14 (.int .i64 ((cnt + 1:Nat):Int))) b1 m1 d1 b2 m2 d2 g h (cnt + 1) cs ls' st cols
 le:∀ j,j < R → ls' j ≤ ((cnt + 1:Nat):Int)
 chg:Chg (fun j => j = h ∨ j = X) w w'
theorem cfree_hdn (X R:Nat) (vs:List Value) (b1:Option Addr) (m1 d1:Nat) (b2:Option Addr) (m2 d2:Nat) (g h cnt:Nat) (cs ls:Nat → Int) (st cols:List Int) (v k:Nat) (w:World) (hB:BrI w X R vs b1 m1 d1 b2 m2 d2 g h cnt cs ls st cols) (hm:MayP (R:Int) (R:Int) st cols) (hv:v < R) (hb1:m1 ≤ 17592186044000) (hb2:m2 ≤ 17592186044000) (hcs:∀ i,i < R → -1 ≤ cs i ∧ cs i < (k:Int)) (hk:k < R) (hls:∀ j,j < R → ls j ≤ (cnt:Int)) (hcn:cnt ≤ 1000000) (hf:vs[2]? = some (.func (.func 93) #[] #[])) :
  Calls Tryz.prog 66 #[.pointer (some ⟨X,0,none⟩),.int .i64 (v:Int)] w fun e w' => ∃ y b off m c ls',FhN w w' e X R vs b1 m1 d1 b2 m2 d2 g h cnt cs st cols v y b off m c ls':=by
 refine (cfree_nb X R vs b1 m1 d1 b2 m2 d2 g h cnt cs ls st cols v k w hB hm hv hb1 hb2 hcs hk hls hcn hf).mono ?_
 rintro e w' ⟨z,a,c,ls',hF⟩
 obtain ⟨y,h1,h2,h3⟩:=hF.head hm hv (fun i hi => ⟨(hcs i hi).1,by have:=(hcs i hi).2; omega⟩)
 obtain ⟨b,off,ea,hc⟩:=hF.sl.at h2
 have h0:=hc 0 h2
 rw [h1,Nat.add_zero] at h0
 exact ⟨y,b,off,_,c,ls',by rw [hF.ret,ea],h2,h0,h3,hF.bru,hF.le,hF.chg⟩
structure PaN (w w':World) (e:Ending) (X R:Nat) (g h:Nat) (st cols xs:List Int) (n:Nat) (cs:Nat → Int):Prop where
 ret:e = .returned (.slice (some ⟨g,0,none⟩) R R)
 pnt:PntN st cols xs n cs
 row:RoV w' g R (fun i => .int .i64 (cs i))
 chg:Chg (fun j => j = g ∨ j = h ∨ j = X) w w'
set_option maxRecDepth 100000 in
set_option maxHeartbeats 16000000 in
theorem cpaint_nb (X R:Nat) (vs:List Value) (b1:Option Addr) (m1 d1:Nat) (b2:Option Addr) (m2 d2:Nat) (g h:Nat) (ls:Nat → Int) (st cols:List Int) (a:Option Addr) (n c:Nat) (xs:List Int) (w:World) (hB:BrI w X R vs b1 m1 d1 b2 m2 d2 g h 1 (fun _ => -1) ls st cols) (hm:MayP (R:Int) (R:Int) st cols) (hb1:m1 ≤ 17592186044000) (hb2:m2 ≤ 17592186044000) (hls:∀ j,j < R → ls j ≤ 1) (hf:vs[2]? = some (.func (.func 93) #[] #[])) (hx:SlI w a n c xs) (hn:n ≤ R) (hrg:∀ i,i < n → 0 ≤ xs.getD i 0 ∧ xs.getD i 0 < (R:Int)) (hap:∀ z,a = some z → xs ≠ [] → z.block ≠ g ∧ z.block ≠ h ∧ z.block ≠ X) :
  Calls Tryz.prog 41 #[.pointer (some ⟨X,0,none⟩),.slice a n c] w fun e w' => ∃ cs,PaN w w' e X R g h st cols xs n cs:=by
 have hR8:R ≤ 128:=by have:=hm.head.fit; omega
 have HX:=Hj hx
 have HM:=Hj hm
 have HRG:=Hj hrg
 have HAP:=Hj hap
 have H0:=Hj (And.intro hB (And.intro hls hf))
 clear hB hm hls hf hx hrg hap
 go_enter Tryz.func41,Tryz.ntmps41
 go_wp2_with fail
 go_loopw [9,6] (fun kv _ wr => ∃ k:Nat,k ≤ n ∧ kv = .int .i64 (k:Int) ∧ Hid (∃ cs ls vs',BrI wr X R vs' b1 m1 d1 b2 m2 d2 g h (1 + k) cs ls st cols ∧ (∀ j,j < R → ls j ≤ ((1 + k:Nat):Int)) ∧ vs'[2]? = some (.func (.func 93) #[] #[]) ∧ PntN st cols xs k cs ∧ Chg (fun j => j = g ∨ j = h ∨ j = X) w wr)) (fun kv _ _ => n - (intOf kv).toNat)
 case atStart => exact ⟨0,Nat.zero_le _,rfl,Hj ⟨fun _ => -1,ls,vs,(Uh H0).1,(Uh H0).2.1,(Uh H0).2.2,rfl,Chg.refl _ _⟩⟩
 case round =>
  obtain ⟨k,hk,rfl,HK⟩:=hrel
  obtain ⟨cs,ls2,vs2,hbr,hle,hf2,hpn,hch⟩:=Uh HK
  by_cases hlt:k < n
  ·have hlt':(k:Int) < (n:Int):=by omega
   obtain ⟨bb,off,e1,hc⟩:=((Uh HX).chg hch (fun z hz hne e => by have:=Uh HAP z hz hne; omega)).at (by omega)
   subst e1
   have sk:=hc k hlt
   have hg:=Uh HRG k hlt
   obtain ⟨v,hv⟩:∃ v:Nat,xs.getD k 0 = (v:Int):=⟨(xs.getD k 0).toNat,by omega⟩
   rw [hv] at sk hg
   have hvR:v < R:=by omega
   have hvR':(v:Int) < (R:Int):=by omega
   have hrng:=PntN.rng (Uh HM) (Uh HRG) hk hpn
   have q13:=(hbr.box.all 13 _ hbr.v13).1
   have KF:=Hj (fun W (b:Below wr.heap.size wr W) => cfree_hdn X R vs2 b1 m1 d1 b2 m2 d2 g h (1 + k) cs ls2 st cols v k W (hbr.below b) (Uh HM) hvR hb1 hb2 (fun i _ => hrng i) (by omega) hle (by omega) hf2)
   have HST:=Hj (fun y (hl:LstN st cols cs v y) => (show PntN st cols xs (k + 1) (updC cs v y) from ⟨cs,y,hpn,by rw [hv]; exact hl,by rw [hv]; rfl⟩))
   have HCh:=Hj hch
   have HF2:=Hj hf2
   have hgX:=hbr.ne.2.1
   clear hc hv hg hrng hbr hle hf2 hpn hch HK
   go_wp2_with fail
   go_region_with
    (go_at_call 66; refine (Uh KF _ (by first | exact Below.refl _ _ | exact (Below.refl _ _).drew)).mono ?_; rintro _ w4 ⟨y,b4,o4,m4,c4,ls4,hF⟩; have e4:=hF.ret; subst e4; have hp4:(0:Int) < (m4:Int):=(by have:=hF.pos; omega); have hc4:=hF.cell; have k0:=(hF.bru.box.all 13 _ hF.bru.v13).1; have hcv:=(hF.bru.col v hvR).1; have hfv:=(hF.bru.col v hvR).2; have k1:=(Chg.of_set (S:=fun j => j = g) w4 g v (.int .i64 (y:Int)) rfl).cell (b:=X) (i:=13) (fun e => hgX e.symm) k0; have HF:=Hj hF; clear hF)
   all_goals
    have HN:=Hj (show ∃ cs ls vs',BrI (w4.setCell ⟨g,v,none⟩ (.int .i64 (y:Int))) X R vs' b1 m1 d1 b2 m2 d2 g h (1 + (k + 1)) cs ls st cols ∧ (∀ j,j < R → ls j ≤ ((1 + (k + 1):Nat):Int)) ∧ vs'[2]? = some (.func (.func 93) #[] #[]) ∧ PntN st cols xs (k + 1) cs ∧ Chg (fun j => j = g ∨ j = h ∨ j = X) w (w4.setCell ⟨g,v,none⟩ (.int .i64 (y:Int))) from
     ⟨updC cs v y,ls4,_,(show BrI _ X R _ b1 m1 d1 b2 m2 d2 g h (1 + k + 1) _ _ _ _ from (Uh HF).bru.paint v y hvR),(Uh HF).le,by rw [List.getElem?_set_ne (by omega)]; exact Uh HF2,Uh HST y (Uh HF).lst,(Uh HCh).trans (Chg.trans (by first | exact (Uh HF).chg.mono (fun j _ e => .inr e) | exact (Chg.of_drew _).trans ((Uh HF).chg.mono (fun j _ e => .inr e))) (Chg.of_set _ _ _ _ (.inl rfl)))⟩)
    clear HF k0 k1 hcv hfv hc4 hp4
    go_wp2_with fail
    exact ⟨⟨k + 1,by omega,by (first | rfl | go_num),HN⟩,by simp [intOf]; omega⟩
  ·obtain rfl:k = n:=by omega
   have hlt':¬ (k:Int) < (k:Int):=by omega
   have q13:=(hbr.box.all 13 _ hbr.v13).1
   have HA:=Hj (show PaN w wr (.returned (.slice (some ⟨g,0,none⟩) R R)) X R g h st cols xs k cs from ⟨rfl,hpn,hbr.col,hch⟩)
   clear hbr hle hf2 hpn hch HK
   go_wp2_with fail
   try go_ret
   exact ⟨cs,Uh HA⟩
theorem filt_len (f:Nat → Bool):∀ m,((List.range m).filter f).length ≤ m ∧ (((List.range m).filter f).length = m ↔ ∀ j,j < m → f j = true)
 | 0 => by simp
 | m + 1 => by
  have ih:=filt_len f m
  rw [List.range_succ,List.filter_append,List.length_append]
  by_cases h:f m = true
  ·have e:[m].filter f = [m]:=by simp [h]
   rw [e]
   refine ⟨by simp; omega,?_⟩
   simp only [List.length_cons,List.length_nil]
   constructor
   ·intro q j hj
    by_cases c:j = m
    ·rw [c]; exact h
    ·exact ih.2.1 (by omega) j (by omega)
   ·intro q
    have:=ih.2.2 (fun j hj => q j (by omega))
    omega
  ·have e:[m].filter f = []:=by simp [h]
   rw [e]
   refine ⟨by simp; omega,?_⟩
   simp only [List.length_nil,Nat.add_zero]
   constructor
   ·intro q; omega
   ·intro q; exact absurd (q m (by omega)) h
theorem compact_short (zs:List Int):(Lib.compactUpTo (zs.mergeSort fun x y => decide (x ≤ y)).toArray zs.length).length < zs.length ↔ ¬ zs.Nodup:=by
 have hp:=List.mergeSort_perm zs (fun x y => decide (x ≤ y))
 have hs:(zs.mergeSort fun x y => decide (x ≤ y)).Pairwise (fun x y => decide (x ≤ y) = true):=List.pairwise_mergeSort (fun a b c h1 h2 => by simp at h1 h2 ⊢; omega) (fun a b => by simp; omega) zs
 obtain ⟨s,e⟩:∃ s,(zs.mergeSort fun x y => decide (x ≤ y)) = s:=⟨_,rfl⟩
 rw [e] at hp hs ⊢
 rw [← hp.nodup_iff,← hp.length_eq]
 clear e hp
 unfold Lib.compactUpTo
 rw [List.length_map]
 have hl:=filt_len (Lib.keeps s.toArray) s.length
 rw [List.pairwise_iff_getElem] at hs
 have hlt:((List.range s.length).filter (Lib.keeps s.toArray)).length < s.length ↔ ¬ (((List.range s.length).filter (Lib.keeps s.toArray)).length = s.length):=by omega
 rw [hlt,hl.2]
 refine not_congr ?_
 have hk:∀ j (hj:j < s.length),Lib.keeps s.toArray j = true ↔ (j = 0 ∨ s[j] ≠ s[j - 1]'(by omega)):=by
  intro j hj
  have e1:s.toArray[j]! = s[j]:=by simp [hj]
  have e2:s.toArray[j - 1]! = s[j - 1]'(by omega):=by simp [show j - 1 < s.length by omega]
  unfold Lib.keeps
  rw [e1,e2]
  simp
 constructor
 ·intro h
  have hup:∀ k i (hi:i + k + 1 < s.length),s[i]'(by omega) < s[i + k + 1]:=by
   intro k
   induction k with
   | zero =>
    intro i hi
    have h1:=(hk (i + 1) (by omega)).1 (h _ (by omega))
    have h2:=hs i (i + 1) (by omega) (by omega) (by omega)
    simp only [Nat.add_zero]
    rcases h1 with h1 | h1
    ·omega
    ·simp only [Nat.add_sub_cancel] at h1
     have h2':s[i] ≤ s[i + 1]:=by simpa using h2
     omega
   | succ k ih =>
    intro i hi
    have h1:=ih i (by omega)
    have h3:=(hk (i + (k + 1) + 1) (by omega)).1 (h _ (by omega))
    have h2:=hs (i + k + 1) (i + (k + 1) + 1) (by omega) (by omega) (by omega)
    have h2':s[i + k + 1] ≤ s[i + (k + 1) + 1]:=by simpa using h2
    rcases h3 with h3 | h3
    ·omega
    ·have e:i + (k + 1) + 1 - 1 = i + k + 1:=by omega
     simp only [e] at h3
     omega
  rw [List.nodup_iff_pairwise_ne,List.pairwise_iff_getElem]
  intro i j hi hj hij
  have:=hup (j - i - 1) i (by omega)
  have e:i + (j - i - 1) + 1 = j:=by omega
  simp only [e] at this
  omega
 ·intro h j hj
  rw [hk j hj]
  by_cases c:j = 0
  ·exact .inl c
  ·right
   rw [List.nodup_iff_pairwise_ne,List.pairwise_iff_getElem] at h
   exact (h (j - 1) j (by omega) hj (by omega)).symm
theorem rowL_nodup {st cols:List Int} {R v:Nat} (hm:MayP (R:Int) (R:Int) st cols) (hv:v < R):(rowL st cols v).Nodup:=by
 obtain ⟨X,Y,hR⟩:=hm.rowAt (k:=v) (by omega)
 have e:rowL st cols v = (cols.drop X).take (Y - X):=by unfold rowL; rw [hR.hX,hR.hY]; simp
 have hg:∀ i (hi:i < (rowL st cols v).length),(rowL st cols v)[i] = cols.getD (X + i) 0 ∧ X + i < Y:=by
  intro i hi
  have hi2:i < (rowL st cols v).length:=hi
  rw [e,List.length_take,List.length_drop] at hi2
  refine ⟨?_,by omega⟩
  simp only [e]
  rw [List.getElem_take,List.getElem_drop]
  simp [List.getD,show X + i < cols.length by omega]
 have hup:∀ k i,X + i + k + 1 < Y → cols.getD (X + i) 0 < cols.getD (X + i + k + 1) 0:=by
  intro k
  induction k with
  | zero => intro i hi; exact hR.row.up (X + i + 0 + 1) (by omega) hi
  | succ k ih =>
   intro i hi
   have h1:=ih i (by omega)
   have h2:=hR.row.up (X + i + (k + 1) + 1) (by omega) hi
   have e:X + i + (k + 1) + 1 - 1 = X + i + k + 1:=by omega
   rw [e] at h2
   omega
 rw [List.nodup_iff_pairwise_ne,List.pairwise_iff_getElem]
 intro i j hi hj hij
 rw [(hg i hi).1,(hg j hj).1]
 have:=hup (j - i - 1) i (by have:=(hg j hj).2; omega)
 have e:X + i + (j - i - 1) + 1 = X + j:=by omega
 rw [e] at this
 omega
theorem cldL_sub (cs:Nat → Int):∀ l:List Int,(cldL cs l).Sublist l
 | [] => .slnil
 | u :: l => by
  unfold cldL
  by_cases c:cs u.toNat = -1
  ·rw [if_pos c]; exact (cldL_sub cs l).cons u
  ·rw [if_neg c]; exact (cldL_sub cs l).cons_cons u
theorem map_nodup {f:Int → Int} {l:List Int} (hl:l.Nodup):(l.map f).Nodup ↔ ∀ a ∈ l,∀ b ∈ l,f a = f b → a = b:=by
 induction l with
 | nil => simp
 | cons x l ih =>
  rw [List.nodup_cons] at hl
  rw [List.map_cons,List.nodup_cons,ih hl.2]
  constructor
  ·rintro ⟨h1,h2⟩ a ha b hb e
   rcases List.mem_cons.1 ha with ka | ka
   ·rcases List.mem_cons.1 hb with kb | kb
    ·rw [ka,kb]
    ·rw [ka] at e; exact absurd (List.mem_map.2 ⟨b,kb,e.symm⟩) h1
   ·rcases List.mem_cons.1 hb with kb | kb
    ·rw [kb] at e; exact absurd (List.mem_map.2 ⟨a,ka,e⟩) h1
    ·exact h2 a ka b kb e
  ·intro h
   refine ⟨fun hm => ?_,fun a ha b hb e => h a (List.mem_cons_of_mem _ ha) b (List.mem_cons_of_mem _ hb) e⟩
   obtain ⟨b,hb,e⟩:=List.mem_map.1 hm
   have:=h b (List.mem_cons_of_mem _ hb) x List.mem_cons_self e
   subst this
   exact hl.1 hb
def CirP (st cols:List Int) (R:Nat) (cs:Nat → Int) (v k:Nat):Prop:=∃ u1 u2 c:Nat,u1 ≠ u2 ∧ adG st cols R v u1 ∧ adG st cols R v u2 ∧ cs u1 = (c:Int) ∧ cs u2 = (c:Int) ∧ WyP (adG st cols R) (TwC cs R (c:Int) (k:Int)) u1 u2
def BarA (st cols:List Int) (R:Nat) (cs:Nat → Int) (v k:Nat):Prop:=BarN st cols cs v k ∨ CirP st cols R cs v k
def PrpC (st cols:List Int) (R:Nat) (cs:Nat → Int):Prop:=∀ u v,adG st cols R u v → 0 ≤ cs u → cs u ≠ cs v
theorem ad_row {st cols:List Int} {R v u:Nat} (hm:MayP (R:Int) (R:Int) st cols) (hv:v < R):adG st cols R v u ↔ (u:Int) ∈ rowL st cols v:=by
 constructor
 ·rintro ⟨_,h2,h3⟩
  exact (rowL_mem hm hv).2 h3
 ·intro h
  obtain ⟨i,hi,he⟩:=mem_getD.1 h
  obtain ⟨u',h1,h2⟩:=row_atF hm hv hi
  have:u' = u:=by omega
  subst this
  exact ⟨hv,h2,(rowL_mem hm hv).1 h⟩
theorem roots_alike {st cols:List Int} {R v k:Nat} {cs:Nat → Int} {ro:Nat → Nat} (hm:MayP (R:Int) (R:Int) st cols) (hg:GraP st cols R R) (hv:v < R) (hk:k < R) (hcs:∀ i,i < R → -1 ≤ cs i ∧ cs i < (R:Int)) (hpr:PrpC st cols R cs) (hU:UfE (adG st cols R) cs R ro (fun u v => adG st cols R u v ∧ u ≤ v)) (hb:¬ BarN st cols cs v k) :
  ¬ ((cldL cs (rowL st cols v)).map (fun u => ((ro (elN u.toNat k):Nat):Int))).Nodup ↔ CirP st cols R cs v k:=by
 have hR:R ≤ 128:=by have:=hm.head.fit; omega
 have hed:∀ u v,adG st cols R u v → 0 ≤ cs u → 0 ≤ cs v → (adG st cols R u v ∧ u ≤ v) ∨ (adG st cols R v u ∧ v ≤ u):=fun u v h _ _ => by
  rcases Nat.le_total u v with c | c
  ·exact .inl ⟨h,c⟩
  ·exact .inr ⟨adG.sy hg u v h,c⟩
 have key:∀ {u1 u2 c:Nat},u1 < R → u2 < R → cs u1 = (c:Int) → c ≠ k → cs u2 ≠ (k:Int) → _:=fun {u1 u2 c} h1 h2 e1 n1 n2 => hU.iff (adG.sy hg) hed hpr hR (u1:=u1) (u2:=u2) (k:=k) (c:=c) h1 h2 e1 (by have:=(hcs u1 h1).2; omega) hk n1 n2
 have hnb:∀ u:Nat,(u:Int) ∈ rowL st cols v → cs u ≠ (k:Int):=fun u hu e => hb ⟨(u:Int),hu,by rw [show ((u:Int)).toNat = u by omega]; exact e⟩
 rw [map_nodup ((rowL_nodup hm hv).sublist (cldL_sub cs _))]
 constructor
 ·intro h
  apply Classical.byContradiction
  intro hn
  apply h
  intro a ha b hb' e
  have ra:=cld_rng hm hv ha
  have rb:=cld_rng hm hv hb'
  obtain ⟨x,rfl⟩:∃ x:Nat,a = (x:Int):=⟨a.toNat,by omega⟩
  obtain ⟨y,rfl⟩:∃ y:Nat,b = (y:Int):=⟨b.toNat,by omega⟩
  simp only [Int.toNat_natCast] at e ra rb
  have hx:=(cldL_mem.1 ha).1
  have hy:=(cldL_mem.1 hb').1
  have hxR:x < R:=by omega
  have hyR:y < R:=by omega
  obtain ⟨c,hc⟩:∃ c:Nat,cs x = (c:Int):=⟨(cs x).toNat,by have:=hcs x hxR; omega⟩
  have hnx:=hnb x hx
  have:=(key hxR hyR hc (by rw [hc] at hnx; omega) (hnb y hy)).1 (by omega)
  by_cases c2:x = y
  ·rw [c2]
  ·exact absurd ⟨x,y,c,c2,(ad_row hm hv).2 hx,(ad_row hm hv).2 hy,hc,this.1,this.2⟩ hn
 ·rintro ⟨u1,u2,c,hne,a1,a2,e1,e2,w⟩ h
  have m1:=(ad_row hm hv).1 a1
  have m2:=(ad_row hm hv).1 a2
  have hn1:=hnb u1 m1
  have hn2:=hnb u2 m2
  have er:=(key a1.2.1 a2.2.1 e1 (by rw [e1] at hn1; omega) hn2).2 ⟨e2,w⟩
  have:=h (u1:Int) (cldL_mem.2 ⟨m1,by simp only [Int.toNat_natCast]; omega⟩) (u2:Int) (cldL_mem.2 ⟨m2,by simp only [Int.toNat_natCast]; omega⟩) (by simp only [Int.toNat_natCast]; omega)
  omega
theorem BarA.used {st cols:List Int} {R v k:Nat} {cs:Nat → Int} (hm:MayP (R:Int) (R:Int) st cols) (hpr:PrpC st cols R cs) (hv:v < R) (h:BarA st cols R cs v k):∃ i,i < R ∧ cs i = (k:Int):=by
 rcases h with h | ⟨u1,u2,c,hne,a1,a2,e1,e2,w⟩
 ·exact h.used hm hv
 ·apply Classical.byContradiction
  intro hn
  have key:∀ z,WyP (adG st cols R) (TwC cs R (c:Int) (k:Int)) u1 z → z = u1:=by
   intro z w
   induction w with
   | here h => rfl
   | go b d w hd e ih =>
    exfalso
    have hb:cs b = (c:Int):=by rw [ih]; exact e1
    have hd2:cs d = (c:Int):=hd.2.elim id (fun q => absurd ⟨d,hd.1,q⟩ hn)
    exact hpr b d e (by omega) (by rw [hb,hd2])
  exact hne (key u2 w).symm
end Go.Proofs.YtgjokididdffhaaGreat
