/- Da4 -/
import Derived.Test.YtgjokididdffhaaGreatCh2
namespace Go.Proofs.YtgjokididdffhaaGreat
open Go.RowKit Go.Deep
set_option linter.unusedVariables false
def cdP (k2 k3:Bool) (at_:Nat → Nat) (i r c:Nat):Prop:=if k2 = true then at_ c ≤ i else if k3 = true then at_ r ≤ i else at_ r ≤ i ∧ at_ c ≤ i
set_option maxRecDepth 100000 in
set_option maxHeartbeats 32000000 in
theorem wpart_cols (k:Int) (hk2:(k == 2) = true) (hk3:(k == 3) = false) (R N m i:Nat) (a1 a2 a:Option Addr) (n1 c1 n2 c2 ca:Nat) (st cols xs:List Int) (w:World) (h1:SlI w a1 n1 c1 st) (h2:SlI w a2 n2 c2 cols) (h3:SlI w a m ca xs) (hb1:n1 ≤ 17592186044000) (hb2:n2 ≤ 17592186044000) (hm:MayP (R:Int) (N:Int) st cols) (ho:OrdTo xs m m) (hm8:m ≤ 128) (hmN:N ≤ m) (Cd:Nat → Nat → Prop) (hCd:∀ r c,r < R → c < N → (Cd r c ↔ cdP true false (pzI xs m) i r c)) :
  Calls Tryz.prog 23 #[.int .i64 k,patV (R:Int) (N:Int) a1 n1 c1 a2 n2 c2,.slice a m ca,.int .i64 (i:Int)] w fun e w' => GpQ w w' e R N (grS (fun r c => InC st cols c r ∧ Cd r c) N R) (grC (fun r c => InC st cols c r ∧ Cd r c) N R):=by
 have hfit:=hm.head.fit
 have hR8:R ≤ 128:=by omega
 have hN8:N ≤ 128:=by omega
 obtain ⟨S,hS⟩:∃ S,grS (fun r c => InC st cols c r ∧ Cd r c) N R = S:=⟨_,rfl⟩
 obtain ⟨C,hC⟩:∃ C,grC (fun r c => InC st cols c r ∧ Cd r c) N R = C:=⟨_,rfl⟩
 rw [hS,hC]
 obtain ⟨wb,hwb⟩:∃ x,w.alloc (.cells #[.int .i64 (R:Int),.int .i64 (N:Int),.slice a1 n1 c1,.slice a2 n2 c2] 25) = x:=⟨_,rfl⟩
 have bb:Below w.heap.size w wb:=by rw [← hwb]; exact bAl
 have hT:=BoxP.made w #[.int .i64 (R:Int),.int .i64 (N:Int),.slice a1 n1 c1,.slice a2 n2 c2] 25
 rw [hwb] at hT
 have hO0:=BoxP.made wb #[.int .i64 0,.int .i64 0,.slice none 0 0,.slice none 0 0] 25
 obtain ⟨wo,hwo⟩:∃ x,wb.alloc (.cells #[.int .i64 0,.int .i64 0,.slice none 0 0,.slice none 0 0] 25) = x:=⟨_,rfl⟩
 have bo:Below wb.heap.size wb wo:=by rw [← hwo]; exact bAl
 rw [hwo] at hO0
 have hT1:=hT.below bo
 have p0:=(hT1.all 0 _ rfl).1
 have p1:=(hT1.all 1 _ rfl).1
 have p2:=(hT1.all 2 _ rfl).1
 have p3:=(hT1.all 3 _ rfl).1
 have bw:=bb.trans (bo.mono bb.size)
 have KP:=Hj (wplaces_yes R (N:Int) a1 a2 n1 c1 n2 c2 st cols wo (h1.below bw) (h2.below bw) hb1 hb2 hm)
 unfold patV at KP
 obtain ⟨rs,hrs⟩:∃ rs,plR st R = rs:=⟨_,rfl⟩
 rw [hrs] at KP
 have hg:=plR_get hm R (Nat.le_refl _)
 have hl2:=h2.len
 have hstR:((n2:Nat):Int) = st.getD R 0:=by have:=hm.head.last; simp only [Int.toNat_natCast] at this; rw [this,hl2]
 have hlr:rs.length = n2:=by have:=plR_len hm R (Nat.le_refl _); rw [hrs] at this; omega
 rw [hrs] at hg
 have HPL:=Hj (show ∀ t,t < n2 → ∃ r c:Nat,r < R ∧ c < N ∧ rs.getD t 0 = (r:Int) ∧ cols.getD t 0 = (c:Int) from fun t ht => by
  obtain ⟨r,q1,q2,q3⟩:=hg.2 t (by omega)
  obtain ⟨c,q4,q5⟩:=part_col hm (k:=r) (t:=t) q1 q2 q3
  exact ⟨r,c,q1,q4,hg.1 r t q1 q2 q3,q5⟩)
 have HKEP:=Hj (show ∀ K:Nat → Prop,(∀ t r c:Nat,t < n2 → rs.getD t 0 = (r:Int) → cols.getD t 0 = (c:Int) → (K t ↔ Cd r c)) → grS (PlQ (flK K rs n2) (flK K cols n2) (flK K rs n2).length) N R = S ∧ grC (PlQ (flK K rs n2) (flK K cols n2) (flK K rs n2).length) N R = C from fun K hK => by
  have key:∀ u v,u < R → v < N → (PlQ (flK K rs n2) (flK K cols n2) (flK K rs n2).length u v ↔ (InC st cols v u ∧ Cd u v)):=fun u v hu hv => by
   rw [← hrs]
   exact kept_iff hm hl2 (by rw [hrs]; exact hK) hu
  rw [← hS,← hC]
  exact ⟨grS_congrR key R (Nat.le_refl _),grC_congrR key R (Nat.le_refl _)⟩)
 have HT:=Hj hT1
 have HO:=Hj hO0
 have HB:=Hj bw
 have HXS:=Hj (h3.below bw)
 have HORD:=Hj ho
 have HLR:=Hj (And.intro hlr hl2)
 have HCD:=Hj hCd
 obtain ⟨i64,hi,hz,hs,hb⟩:=info_parts Tryz.info_i64
 have HI:=Hj (And.intro hi (And.intro hz (And.intro hs hb)))
 have HWB:=Hj bb.size
 clear hi hz hs hb hT hT1 hO0 bb bo bw h1 h2 h3 hm ho hCd hfit hS hC hrs hg hl2 hstR hlr
 unfold patV
 go_enter Tryz.func23,Tryz.ntmps23
 go_wp2_with fail
 refine (Uh KP).mono ?_
 rintro _ w2 ⟨⟨ar,dr,ac,dc,rfl,s1,s2⟩,b2⟩
 have HB2:=Hj ((Uh HB).trans (b2.mono (Uh HB).size))
 have HB2o:=Hj b2
 rw [(Uh HLR).1] at s1 ⊢
 rw [(Uh HLR).2] at s2 ⊢
 have HRC:=Hj (And.intro s1 s2)
 clear KP b2 s1 s2 p0 p1 p2 p3
 have hmk:=make_intsR m (by omega)
 go_wp2_with fail
 have hRoI:=RoV.made w2 m 3 (.int .i64 0)
 have ba:Below w2.heap.size w2 (w2.alloc (.cells (madeCells #[.int .i64 0] m) 3)):=bAl
 have hga:w2.heap.size < (w2.alloc (.cells (madeCells #[.int .i64 0] m) 3)).heap.size:=by simp
 generalize w2.alloc (.cells (madeCells #[.int .i64 0] m) 3) = w3 at *
 obtain ⟨ga,hgae⟩:∃ g,w2.heap.size = g:=⟨_,rfl⟩
 rw [hgae] at hRoI hga ⊢
 have hB3:=(Uh HB2).trans (ba.mono (Uh HB2).size)
 have hB3o:=(Uh HB2o).trans (ba.mono (Uh HB2o).size)
 have hwoga:wo.heap.size ≤ ga:=by rw [← hgae]; exact (Uh HB2o).size
 have HN3:=Hj (show ∀ W,Chg (fun j => j = ga) w3 W → BoxP W w.heap.size [.int .i64 (R:Int),.int .i64 (N:Int),.slice a1 n1 c1,.slice a2 n2 c2] ∧ BoxP W wb.heap.size [.int .i64 0,.int .i64 0,.slice none 0 0,.slice none 0 0] ∧ SlI W a m ca xs ∧ SlI W ar n2 dr rs ∧ SlI W ac n2 dc cols ∧ Below w.heap.size w W ∧ w3.heap.size ≤ W.heap.size from fun W c => by
  have hbW:=hB3.trans (c.below hB3.size (fun j hj e => by have e:j = ga:=e; have:=(Uh HB).size; omega))
  have hbo:=hB3o.trans (c.below hB3o.size (fun j hj e => by have e:j = ga:=e; omega))
  have n1':∀ (b:Nat),b < ga → ¬ (b = ga):=fun b h => by omega
  exact ⟨(Uh HT).below hbo,(Uh HO).below hbo,(Uh HXS).below hbo,((Uh HRC).1.below ba).chg c (fun z hz hne e => by have:=(Uh HRC).1.block_lt hne z hz; have e:z.block = ga:=e; omega),((Uh HRC).2.below ba).chg c (fun z hz hne e => by have:=(Uh HRC).2.block_lt hne z hz; have e:z.block = ga:=e; omega),hbW,c.size⟩)
 have HR3:=Hj hRoI
 clear hmk hRoI ba hgae hB3 hB3o
 go_wp2_with fail
 go_loopw [13] (fun kv wr => ∃ q:Nat,q ≤ m ∧ kv = .int .i64 (q:Int) ∧ Hid (RoV wr ga m (fun v => .int .i64 (pzI xs q v:Int))) ∧ Hid (Chg (fun j => j = ga) w3 wr)) (fun kv _ => m - (intOf kv).toNat)
 case atStart => exact ⟨0,Nat.zero_le _,rfl,Hj ((Uh HR3).congr (fun i hi => rfl)),Hj (Chg.refl _ _)⟩
 case round =>
  obtain ⟨q,hq,rfl,HR,HC⟩:=hrel
  have hx:=Uh HN3 wr (Uh HC)
  by_cases hlt:q < m
  ·have hlt':(q:Int) < (m:Int):=by omega
   obtain ⟨bx,ox,e1,hc1⟩:=hx.2.2.1.at (by omega)
   subst e1
   have s0:=hc1 q hlt
   have hrg:=(Uh HORD).rng q hlt
   obtain ⟨v,hv⟩:∃ v:Nat,xs.getD q 0 = (v:Int):=⟨(xs.getD q 0).toNat,by omega⟩
   rw [hv] at s0 hrg
   have hvm:v < m:=by omega
   have hvm':(v:Int) < (m:Int):=by omega
   have q0:=(Uh HR v hvm).1
   have q1:=(Uh HR v hvm).2
   have HR2:=Hj (show RoV (wr.setCell ⟨ga,v,none⟩ (.int .i64 (q:Int))) ga m (fun v => .int .i64 (pzI xs (q + 1) v:Int)) from ((Uh HR).put v (.int .i64 (q:Int)) hvm).congr (fun u hu => by
    by_cases e:u = v
    ·subst e
     rw [if_pos rfl]
     simp only [pzI]
     rw [if_pos hv]
    ·rw [if_neg e]
     simp only [pzI]
     rw [if_neg (fun e2 => e (by omega))]))
   have HC2:=Hj ((Uh HC).trans (Chg.of_set (S:=fun j => j = ga) wr ga v (.int .i64 (q:Int)) rfl))
   clear hx hc1 hv hrg
   go_wp2_with fail
   exact ⟨⟨q + 1,by omega,by (first | rfl | go_num),HR2,HC2⟩,by simp [intOf]; omega⟩
  ·obtain rfl:q = m:=by omega
   have hlt':¬ (q:Int) < (q:Int):=by omega
   obtain ⟨base,hbase⟩:∃ b,wr.heap.size = b:=⟨_,rfl⟩
   have HBS:=Hj hbase
   have HLO:=Hj (show w3.heap.size ≤ base ∧ ga < base ∧ wo.heap.size ≤ ga ∧ wb.heap.size < wo.heap.size from by have:=hx.2.2.2.2.2.2; have:=(Uh HO).lt; omega)
   have HNB:=Hj (show ∀ W,Below base wr W → BoxP W w.heap.size [.int .i64 (R:Int),.int .i64 (N:Int),.slice a1 n1 c1,.slice a2 n2 c2] ∧ BoxP W wb.heap.size [.int .i64 0,.int .i64 0,.slice none 0 0,.slice none 0 0] ∧ SlI W ar n2 dr rs ∧ SlI W ac n2 dc cols ∧ RoV W ga q (fun v => .int .i64 (pzI xs q v:Int)) ∧ Below w.heap.size w W from fun W b => by
    rw [← hbase] at b
    exact ⟨hx.1.below b,hx.2.1.below b,hx.2.2.2.1.below b,hx.2.2.2.2.1.below b,(Uh HR).below b,hx.2.2.2.2.2.1.trans (b.mono hx.2.2.2.2.2.1.size)⟩)
   obtain ⟨K,hK⟩:∃ K:Nat → Prop,(fun t => cdP true false (pzI xs q) i (rs.getD t 0).toNat (cols.getD t 0).toNat) = K:=⟨_,rfl⟩
   have HK:=Hj hK
   clear hx hbase hK
   have hb2':n2 ≤ 17592186044000:=hb2
   go_wp2_with fail
   go_loopw [16,14,15] (fun tv v u wq => ∃ t:Nat,t ≤ n2 ∧ tv = .int .i64 (t:Int) ∧ Hid (PlI wr wq base v u (flK K rs t) (flK K cols t))) (fun tv _ _ _ => n2 - (intOf tv).toNat)
   case atStart => exact ⟨0,Nat.zero_le _,rfl,Hj ⟨World.ownsRow_nil _ _ _ _,World.ownsRow_nil _ _ _ _,fun g hg => (by simp [Value.ownBlock] at hg),Below.refl _ _,Nat.le_of_eq (Uh HBS).symm⟩⟩
   case round =>
    obtain ⟨t,ht,rfl,HP⟩:=hrel
    have hbx:=Uh HNB wr (Uh HP).bel
    by_cases hlt:t < n2
    ·have hlt':(t:Int) < (n2:Int):=by omega
     obtain ⟨r,c,hrR,hcN,hr,hc⟩:=Uh HPL t hlt
     obtain ⟨br,or_,e1,hc1⟩:=hbx.2.2.1.at (by omega)
     obtain ⟨bc,oc,e2,hc2⟩:=hbx.2.2.2.1.at (by omega)
     subst e1 e2
     have s0:=hc1 t hlt
     have s1:=hc2 t hlt
     rw [hr] at s0
     rw [hc] at s1
     have hsx:c < q:=by omega
     have hsx':(c:Int) < (q:Int):=by omega
     have a0:=(hbx.2.2.2.2.1 c hsx).1
     obtain ⟨z,hz⟩:∃ z,pzI xs q c = z:=⟨_,rfl⟩
     simp only [hz] at a0
     have hKt:K t ↔ z ≤ i:=by
      rw [← Uh HK]
      show cdP true false (pzI xs q) i (rs.getD t 0).toNat (cols.getD t 0).toNat ↔ _
      rw [hr,hc]
      simp only [cdP,Int.toNat_natCast]
      rw [← hz]
      simp
     have hle:=(Uh HP).le
     clear hbx hc1 hc2 hz
     by_cases hzi:z ≤ i
     ·have hzi':(z:Int) ≤ (i:Int):=by omega
      have dz:decide (z ≤ i) = true:=by simp [hzi]
      have HE:=Hj (show flK K rs (t + 1) = flK K rs t ++ [(r:Int)] ∧ flK K cols (t + 1) = flK K cols t ++ [(c:Int)] from by
       have hk:=hKt.2 hzi
       simp only [flK]
       rw [if_pos (tb_iff.2 hk),if_pos (tb_iff.2 hk),hr,hc]
       exact ⟨rfl,rfl⟩)
      have hrs1:=flK_le (K:=K) (L:=rs) t
      have hcs1:=flK_le (K:=K) (L:=cols) t
      have HS1:=Hj hc
      obtain ⟨Lr,hLr⟩:∃ L,flK K rs t = L:=⟨_,rfl⟩
      obtain ⟨Lc,hLc⟩:∃ L,flK K cols t = L:=⟨_,rfl⟩
      rw [hLr,hLc] at HP HE
      rw [hLr] at hrs1
      rw [hLc] at hcs1
      clear hLr hLc hKt hzi hr hc
      go_wp2_with (at_builtin; refine wpList_append_lies _ rfl _ _ 23 rfl base 3 i64 (.int .i64 0) 1 8 Tryz.underlying23 (Uh HI).1 (Uh HI).2.1 (Uh HI).2.2.1 (Uh HI).2.2.2 rfl (by decide) _ Lr.length (valsI Lr) rfl ((Uh HP).own1.alloc _) ⟨wr.heap.size,0,none⟩ 1 1 [.int .i64 (r:Int)] rfl rfl (World.news_of_block (alloc_block _ _)) ?c21 (by decide) ?c22 ?c23 ?c24 (wr.heap.size + 1) (by simp) ?_)
      case c21 => intro z hz; simp at hz; rcases hz with rfl; rfl
      case c22 => unfold maxLen; omega
      case c23 => omega
      case c24 => simp; omega
      intro g1 cap1 w4 hown hg hat hlt4
      have HQ3:=Hj ((Uh HP).app _ hown hg hat)
      have hbx3:=Uh HNB w4 (Uh HQ3).bel
      obtain ⟨bc',oc',e2,hc2⟩:=hbx3.2.2.2.1.at (by omega)
      cases e2
      have s13:=hc2 t hlt
      rw [Uh HS1] at s13
      have hle3:=(Uh HQ3).le
      clear hown hg hat hlt4 hc2 hbx3 s0 s1 a0
      go_wp2_with (at_builtin; refine wpList_append_lies _ rfl _ _ 23 rfl base 3 i64 (.int .i64 0) 1 8 Tryz.underlying23 (Uh HI).1 (Uh HI).2.1 (Uh HI).2.2.1 (Uh HI).2.2.2 rfl (by decide) _ Lc.length (valsI Lc) rfl ((Uh HQ3).own2.alloc _) ⟨w4.heap.size,0,none⟩ 1 1 [.int .i64 (c:Int)] rfl rfl (World.news_of_block (alloc_block _ _)) ?c31 (by decide) ?c32 ?c33 ?c34 (w4.heap.size + 1) (by simp) ?_)
      case c31 => intro z hz; simp at hz; rcases hz with rfl; rfl
      case c32 => unfold maxLen; omega
      case c33 => omega
      case c34 => simp; omega
      intro g2 cap2 w5 hown hg hat hlt5
      have HQ4:=Hj ((Uh HQ3).swap.app _ hown hg hat).swap
      clear hown hg hat hlt5 s13
      go_wp2_with fail
      refine ⟨⟨t + 1,by omega,by (first | rfl | go_num),Hj ?_⟩,by simp [intOf]; omega⟩
      rw [(Uh HE).1,(Uh HE).2]
      exact Uh HQ4
     ·have hzi':¬ (z:Int) ≤ (i:Int):=by omega
      have dz:decide (z ≤ i) = false:=by simp; omega
      have HE:=Hj (show flK K rs (t + 1) = flK K rs t ∧ flK K cols (t + 1) = flK K cols t from by
       have hk:¬ K t:=fun e => hzi (hKt.1 e)
       simp only [flK]
       rw [if_neg (fun e => hk (tb_iff.1 e)),if_neg (fun e => hk (tb_iff.1 e)),List.append_nil,List.append_nil]
       exact ⟨rfl,rfl⟩)
      clear hKt hzi hr hc
      go_wp2_with fail
      refine ⟨⟨t + 1,by omega,by (first | rfl | go_num),Hj ?_⟩,by simp [intOf]; omega⟩
      rw [(Uh HE).1,(Uh HE).2]
      exact Uh HP
    ·obtain rfl:t = n2:=by omega
     have hlt':¬ (t:Int) < (t:Int):=by omega
     obtain ⟨x1,d1,rfl,sr⟩:=own_slI (Uh HP).own1
     obtain ⟨x2,d2,rfl,sc⟩:=own_slI (Uh HP).own2
     obtain ⟨n,hn⟩:∃ n,(flK K rs t).length = n:=⟨_,rfl⟩
     have hn2:=flK_len (K:=K) (L:=rs) (M:=cols) t
     have hnle:=flK_le (K:=K) (L:=rs) t
     rw [← hn2] at sc ⊢
     have hkk:=Uh HKEP K (fun t' r c ht' hr hc => by
      rw [← Uh HK]
      show cdP true false (pzI xs q) i (rs.getD t' 0).toNat (cols.getD t' 0).toNat ↔ _
      rw [hr,hc]
      simp only [Int.toNat_natCast]
      obtain ⟨r',c',q1,q2,q3,q4⟩:=Uh HPL t' ht'
      exact (Uh HCD r c (by omega) (by omega)).symm)
     have hins:=fun j (hj:j < n) => (show 0 ≤ (flK K rs t).getD j 0 ∧ (flK K rs t).getD j 0 < (R:Int) ∧ 0 ≤ (flK K cols t).getD j 0 ∧ (flK K cols t).getD j 0 < (N:Int) from by
      obtain ⟨j',a,b,d,e⟩:=flK_from (K:=K) (rs:=rs) (cs:=cols) t j (by rw [hn]; exact hj)
      obtain ⟨r',c',q1,q2,q3,q4⟩:=Uh HPL j' a
      rw [d,e,q3,q4]
      omega)
     rw [hn] at sr sc hnle hkk ⊢
     have KB:=Hj (show Calls Tryz.prog 48 #[.int .i64 (R:Int),.int .i64 (N:Int),.slice x1 n d1,.slice x2 n d2] wr fun e w' => ∃ a1 c1 a2 c2,e = .returned (.tuple #[.agg #[.int .i64 (R:Int),.int .i64 (N:Int),.slice a1 S.length c1,.slice a2 C.length c2],.int .i64 0]) ∧ SlI w' a1 S.length c1 S ∧ SlI w' a2 C.length c2 C ∧ Below wr.heap.size wr w' ∧ (∀ z,a1 = some z → wr.heap.size ≤ z.block) ∧ (∀ z,a2 = some z → wr.heap.size ≤ z.block) from by
      have:=wbuild_any R N n x1 d1 x2 d2 (flK K rs t) (flK K cols t) wr hR8 hN8 sr sc (by omega) hins
      rw [hkk.1,hkk.2] at this
      exact this)
     have p0:=(hbx.1.all 0 _ rfl).1
     have p1:=(hbx.1.all 1 _ rfl).1
     have HBX:=Hj hbx
     have HGE:=Hj (show base ≤ wr.heap.size from (Uh HP).le)
     clear hbx sr sc hn hn2 hnle hkk hins
     go_wp2_with fail
     refine (Uh KB).mono ?_
     rintro _ wk ⟨y1,e1,y2,e2,rfl,g1,g2,bk,f1,f2⟩
     clear KB p0 p1
     try dsimp only
     repeat ((fail_if_success (with_reducible (show Code.wp _ _ _ _ (World.alloc wk (Obj.cells #[_,_,_,.slice y2 C.length e2] _))))); (first | go_values | go_skip | go_guarded | go_step | go_upon | go_back))
     have hQ:=BoxP.made wk #[.int .i64 (R:Int),.int .i64 (N:Int),.slice y1 S.length e1,.slice y2 C.length e2] 25
     have bq:Below wk.heap.size wk (wk.alloc (.cells #[.int .i64 (R:Int),.int .i64 (N:Int),.slice y1 S.length e1,.slice y2 C.length e2] 25)):=bAl
     have bkq:=bk.trans (bq.mono bk.size)
     have HG:=Hj (And.intro (g1.below bq) (g2.below bq))
     have HFr:=Hj (And.intro f1 f2)
     have hbx:=Uh HBX
     have HOq:=Hj (hbx.2.1.below bkq)
     have hbW:=hbx.2.2.2.2.2
     have HBW:=Hj (hbW.trans (bkq.mono hbW.size))
     have HSZ:=Hj (show wb.heap.size < wr.heap.size from by have:=Uh HLO; have:=Uh HGE; omega)
     clear bk bq bkq g1 g2 f1 f2 hbx hbW
     generalize wk.alloc (.cells #[.int .i64 (R:Int),.int .i64 (N:Int),.slice y1 S.length e1,.slice y2 C.length e2] 25) = wz at *
     have z0:=(hQ.all 0 _ rfl).1
     have z1:=(hQ.all 1 _ rfl).1
     have z2:=(hQ.all 2 _ rfl).1
     have z3:=(hQ.all 3 _ rfl).1
     have o0:=((Uh HOq).all 0 _ rfl).1
     have o1:=((Uh HOq).all 1 _ rfl).1
     have o2:=((Uh HOq).all 2 _ rfl).1
     have o3:=((Uh HOq).all 3 _ rfl).1
     have v0:=((Uh HOq).all 0 _ rfl).2
     have v1:=((Uh HOq).all 1 _ rfl).2
     have v2:=((Uh HOq).all 2 _ rfl).2
     have v3:=((Uh HOq).all 3 _ rfl).2
     clear hQ
     go_wp2_with fail
     have hf:=((((Uh HOq).put 0 (.int .i64 (R:Int))).put 1 (.int .i64 (N:Int))).put 2 (.slice y1 S.length e1)).put 3 (.slice y2 C.length e2)
     have t0:=(hf.all 0 _ rfl).1
     have t1:=(hf.all 1 _ rfl).1
     have t2:=(hf.all 2 _ rfl).1
     have t3:=(hf.all 3 _ rfl).1
     have cc:Chg (fun j => j = wb.heap.size) wz ((((wz.setCell ⟨wb.heap.size,0,none⟩ (.int .i64 (R:Int))).setCell ⟨wb.heap.size,1,none⟩ (.int .i64 (N:Int))).setCell ⟨wb.heap.size,2,none⟩ (.slice y1 S.length e1)).setCell ⟨wb.heap.size,3,none⟩ (.slice y2 C.length e2)):=(((Chg.of_set (S:=fun j => j = wb.heap.size) _ _ _ _ rfl).trans (Chg.of_set (S:=fun j => j = wb.heap.size) _ _ _ _ rfl)).trans (Chg.of_set (S:=fun j => j = wb.heap.size) _ _ _ _ rfl)).trans (Chg.of_set (S:=fun j => j = wb.heap.size) _ _ _ _ rfl)
     generalize (((wz.setCell ⟨wb.heap.size,0,none⟩ (.int .i64 (R:Int))).setCell ⟨wb.heap.size,1,none⟩ (.int .i64 (N:Int))).setCell ⟨wb.heap.size,2,none⟩ (.slice y1 S.length e1)).setCell ⟨wb.heap.size,3,none⟩ (.slice y2 C.length e2) = wf at *
     refine bodyPost_ret (by simp [results,Tryz.results23,go_sem,t0,t1,t2,t3]; try rfl) rfl ?_
     have h8:=Uh HSZ
     have h9:=Uh HWB
     refine ⟨y1,e1,y2,e2,rfl,(Uh HG).1.chg cc (fun z hz _ e => ?_),(Uh HG).2.chg cc (fun z hz _ e => ?_),?_,fun z hz => ?_,fun z hz => ?_⟩
     ·have:=(Uh HFr).1 z hz; have e:z.block = wb.heap.size:=e; omega
     ·have:=(Uh HFr).2 z hz; have e:z.block = wb.heap.size:=e; omega
     ·have hk:=Uh HBW
      exact hk.trans (cc.below hk.size (fun j hj e => by have e:j = wb.heap.size:=e; omega))
     ·have:=(Uh HFr).1 z hz; omega
     ·have:=(Uh HFr).2 z hz; omega
set_option maxRecDepth 100000 in
set_option maxHeartbeats 32000000 in
theorem wpart_rows (k:Int) (hk2:(k == 2) = false) (hk3:(k == 3) = true) (R N m i:Nat) (a1 a2 a:Option Addr) (n1 c1 n2 c2 ca:Nat) (st cols xs:List Int) (w:World) (h1:SlI w a1 n1 c1 st) (h2:SlI w a2 n2 c2 cols) (h3:SlI w a m ca xs) (hb1:n1 ≤ 17592186044000) (hb2:n2 ≤ 17592186044000) (hm:MayP (R:Int) (N:Int) st cols) (ho:OrdTo xs m m) (hm8:m ≤ 128) (hmN:R ≤ m) (Cd:Nat → Nat → Prop) (hCd:∀ r c,r < R → c < N → (Cd r c ↔ cdP false true (pzI xs m) i r c)) :
  Calls Tryz.prog 23 #[.int .i64 k,patV (R:Int) (N:Int) a1 n1 c1 a2 n2 c2,.slice a m ca,.int .i64 (i:Int)] w fun e w' => GpQ w w' e R N (grS (fun r c => InC st cols c r ∧ Cd r c) N R) (grC (fun r c => InC st cols c r ∧ Cd r c) N R):=by
 have hfit:=hm.head.fit
 have hR8:R ≤ 128:=by omega
 have hN8:N ≤ 128:=by omega
 obtain ⟨S,hS⟩:∃ S,grS (fun r c => InC st cols c r ∧ Cd r c) N R = S:=⟨_,rfl⟩
 obtain ⟨C,hC⟩:∃ C,grC (fun r c => InC st cols c r ∧ Cd r c) N R = C:=⟨_,rfl⟩
 rw [hS,hC]
 obtain ⟨wb,hwb⟩:∃ x,w.alloc (.cells #[.int .i64 (R:Int),.int .i64 (N:Int),.slice a1 n1 c1,.slice a2 n2 c2] 25) = x:=⟨_,rfl⟩
 have bb:Below w.heap.size w wb:=by rw [← hwb]; exact bAl
 have hT:=BoxP.made w #[.int .i64 (R:Int),.int .i64 (N:Int),.slice a1 n1 c1,.slice a2 n2 c2] 25
 rw [hwb] at hT
 have hO0:=BoxP.made wb #[.int .i64 0,.int .i64 0,.slice none 0 0,.slice none 0 0] 25
 obtain ⟨wo,hwo⟩:∃ x,wb.alloc (.cells #[.int .i64 0,.int .i64 0,.slice none 0 0,.slice none 0 0] 25) = x:=⟨_,rfl⟩
 have bo:Below wb.heap.size wb wo:=by rw [← hwo]; exact bAl
 rw [hwo] at hO0
 have hT1:=hT.below bo
 have p0:=(hT1.all 0 _ rfl).1
 have p1:=(hT1.all 1 _ rfl).1
 have p2:=(hT1.all 2 _ rfl).1
 have p3:=(hT1.all 3 _ rfl).1
 have bw:=bb.trans (bo.mono bb.size)
 have KP:=Hj (wplaces_yes R (N:Int) a1 a2 n1 c1 n2 c2 st cols wo (h1.below bw) (h2.below bw) hb1 hb2 hm)
 unfold patV at KP
 obtain ⟨rs,hrs⟩:∃ rs,plR st R = rs:=⟨_,rfl⟩
 rw [hrs] at KP
 have hg:=plR_get hm R (Nat.le_refl _)
 have hl2:=h2.len
 have hstR:((n2:Nat):Int) = st.getD R 0:=by have:=hm.head.last; simp only [Int.toNat_natCast] at this; rw [this,hl2]
 have hlr:rs.length = n2:=by have:=plR_len hm R (Nat.le_refl _); rw [hrs] at this; omega
 rw [hrs] at hg
 have HPL:=Hj (show ∀ t,t < n2 → ∃ r c:Nat,r < R ∧ c < N ∧ rs.getD t 0 = (r:Int) ∧ cols.getD t 0 = (c:Int) from fun t ht => by
  obtain ⟨r,q1,q2,q3⟩:=hg.2 t (by omega)
  obtain ⟨c,q4,q5⟩:=part_col hm (k:=r) (t:=t) q1 q2 q3
  exact ⟨r,c,q1,q4,hg.1 r t q1 q2 q3,q5⟩)
 have HKEP:=Hj (show ∀ K:Nat → Prop,(∀ t r c:Nat,t < n2 → rs.getD t 0 = (r:Int) → cols.getD t 0 = (c:Int) → (K t ↔ Cd r c)) → grS (PlQ (flK K rs n2) (flK K cols n2) (flK K rs n2).length) N R = S ∧ grC (PlQ (flK K rs n2) (flK K cols n2) (flK K rs n2).length) N R = C from fun K hK => by
  have key:∀ u v,u < R → v < N → (PlQ (flK K rs n2) (flK K cols n2) (flK K rs n2).length u v ↔ (InC st cols v u ∧ Cd u v)):=fun u v hu hv => by
   rw [← hrs]
   exact kept_iff hm hl2 (by rw [hrs]; exact hK) hu
  rw [← hS,← hC]
  exact ⟨grS_congrR key R (Nat.le_refl _),grC_congrR key R (Nat.le_refl _)⟩)
 have HT:=Hj hT1
 have HO:=Hj hO0
 have HB:=Hj bw
 have HXS:=Hj (h3.below bw)
 have HORD:=Hj ho
 have HLR:=Hj (And.intro hlr hl2)
 have HCD:=Hj hCd
 obtain ⟨i64,hi,hz,hs,hb⟩:=info_parts Tryz.info_i64
 have HI:=Hj (And.intro hi (And.intro hz (And.intro hs hb)))
 have HWB:=Hj bb.size
 clear hi hz hs hb hT hT1 hO0 bb bo bw h1 h2 h3 hm ho hCd hfit hS hC hrs hg hl2 hstR hlr
 unfold patV
 go_enter Tryz.func23,Tryz.ntmps23
 go_wp2_with fail
 refine (Uh KP).mono ?_
 rintro _ w2 ⟨⟨ar,dr,ac,dc,rfl,s1,s2⟩,b2⟩
 have HB2:=Hj ((Uh HB).trans (b2.mono (Uh HB).size))
 have HB2o:=Hj b2
 rw [(Uh HLR).1] at s1 ⊢
 rw [(Uh HLR).2] at s2 ⊢
 have HRC:=Hj (And.intro s1 s2)
 clear KP b2 s1 s2 p0 p1 p2 p3
 have hmk:=make_intsR m (by omega)
 go_wp2_with fail
 have hRoI:=RoV.made w2 m 3 (.int .i64 0)
 have ba:Below w2.heap.size w2 (w2.alloc (.cells (madeCells #[.int .i64 0] m) 3)):=bAl
 have hga:w2.heap.size < (w2.alloc (.cells (madeCells #[.int .i64 0] m) 3)).heap.size:=by simp
 generalize w2.alloc (.cells (madeCells #[.int .i64 0] m) 3) = w3 at *
 obtain ⟨ga,hgae⟩:∃ g,w2.heap.size = g:=⟨_,rfl⟩
 rw [hgae] at hRoI hga ⊢
 have hB3:=(Uh HB2).trans (ba.mono (Uh HB2).size)
 have hB3o:=(Uh HB2o).trans (ba.mono (Uh HB2o).size)
 have hwoga:wo.heap.size ≤ ga:=by rw [← hgae]; exact (Uh HB2o).size
 have HN3:=Hj (show ∀ W,Chg (fun j => j = ga) w3 W → BoxP W w.heap.size [.int .i64 (R:Int),.int .i64 (N:Int),.slice a1 n1 c1,.slice a2 n2 c2] ∧ BoxP W wb.heap.size [.int .i64 0,.int .i64 0,.slice none 0 0,.slice none 0 0] ∧ SlI W a m ca xs ∧ SlI W ar n2 dr rs ∧ SlI W ac n2 dc cols ∧ Below w.heap.size w W ∧ w3.heap.size ≤ W.heap.size from fun W c => by
  have hbW:=hB3.trans (c.below hB3.size (fun j hj e => by have e:j = ga:=e; have:=(Uh HB).size; omega))
  have hbo:=hB3o.trans (c.below hB3o.size (fun j hj e => by have e:j = ga:=e; omega))
  have n1':∀ (b:Nat),b < ga → ¬ (b = ga):=fun b h => by omega
  exact ⟨(Uh HT).below hbo,(Uh HO).below hbo,(Uh HXS).below hbo,((Uh HRC).1.below ba).chg c (fun z hz hne e => by have:=(Uh HRC).1.block_lt hne z hz; have e:z.block = ga:=e; omega),((Uh HRC).2.below ba).chg c (fun z hz hne e => by have:=(Uh HRC).2.block_lt hne z hz; have e:z.block = ga:=e; omega),hbW,c.size⟩)
 have HR3:=Hj hRoI
 clear hmk hRoI ba hgae hB3 hB3o
 go_wp2_with fail
 go_loopw [13] (fun kv wr => ∃ q:Nat,q ≤ m ∧ kv = .int .i64 (q:Int) ∧ Hid (RoV wr ga m (fun v => .int .i64 (pzI xs q v:Int))) ∧ Hid (Chg (fun j => j = ga) w3 wr)) (fun kv _ => m - (intOf kv).toNat)
 case atStart => exact ⟨0,Nat.zero_le _,rfl,Hj ((Uh HR3).congr (fun i hi => rfl)),Hj (Chg.refl _ _)⟩
 case round =>
  obtain ⟨q,hq,rfl,HR,HC⟩:=hrel
  have hx:=Uh HN3 wr (Uh HC)
  by_cases hlt:q < m
  ·have hlt':(q:Int) < (m:Int):=by omega
   obtain ⟨bx,ox,e1,hc1⟩:=hx.2.2.1.at (by omega)
   subst e1
   have s0:=hc1 q hlt
   have hrg:=(Uh HORD).rng q hlt
   obtain ⟨v,hv⟩:∃ v:Nat,xs.getD q 0 = (v:Int):=⟨(xs.getD q 0).toNat,by omega⟩
   rw [hv] at s0 hrg
   have hvm:v < m:=by omega
   have hvm':(v:Int) < (m:Int):=by omega
   have q0:=(Uh HR v hvm).1
   have q1:=(Uh HR v hvm).2
   have HR2:=Hj (show RoV (wr.setCell ⟨ga,v,none⟩ (.int .i64 (q:Int))) ga m (fun v => .int .i64 (pzI xs (q + 1) v:Int)) from ((Uh HR).put v (.int .i64 (q:Int)) hvm).congr (fun u hu => by
    by_cases e:u = v
    ·subst e
     rw [if_pos rfl]
     simp only [pzI]
     rw [if_pos hv]
    ·rw [if_neg e]
     simp only [pzI]
     rw [if_neg (fun e2 => e (by omega))]))
   have HC2:=Hj ((Uh HC).trans (Chg.of_set (S:=fun j => j = ga) wr ga v (.int .i64 (q:Int)) rfl))
   clear hx hc1 hv hrg
   go_wp2_with fail
   exact ⟨⟨q + 1,by omega,by (first | rfl | go_num),HR2,HC2⟩,by simp [intOf]; omega⟩
  ·obtain rfl:q = m:=by omega
   have hlt':¬ (q:Int) < (q:Int):=by omega
   obtain ⟨base,hbase⟩:∃ b,wr.heap.size = b:=⟨_,rfl⟩
   have HBS:=Hj hbase
   have HLO:=Hj (show w3.heap.size ≤ base ∧ ga < base ∧ wo.heap.size ≤ ga ∧ wb.heap.size < wo.heap.size from by have:=hx.2.2.2.2.2.2; have:=(Uh HO).lt; omega)
   have HNB:=Hj (show ∀ W,Below base wr W → BoxP W w.heap.size [.int .i64 (R:Int),.int .i64 (N:Int),.slice a1 n1 c1,.slice a2 n2 c2] ∧ BoxP W wb.heap.size [.int .i64 0,.int .i64 0,.slice none 0 0,.slice none 0 0] ∧ SlI W ar n2 dr rs ∧ SlI W ac n2 dc cols ∧ RoV W ga q (fun v => .int .i64 (pzI xs q v:Int)) ∧ Below w.heap.size w W from fun W b => by
    rw [← hbase] at b
    exact ⟨hx.1.below b,hx.2.1.below b,hx.2.2.2.1.below b,hx.2.2.2.2.1.below b,(Uh HR).below b,hx.2.2.2.2.2.1.trans (b.mono hx.2.2.2.2.2.1.size)⟩)
   obtain ⟨K,hK⟩:∃ K:Nat → Prop,(fun t => cdP false true (pzI xs q) i (rs.getD t 0).toNat (cols.getD t 0).toNat) = K:=⟨_,rfl⟩
   have HK:=Hj hK
   clear hx hbase hK
   have hb2':n2 ≤ 17592186044000:=hb2
   go_wp2_with fail
   go_loopw [16,14,15] (fun tv v u wq => ∃ t:Nat,t ≤ n2 ∧ tv = .int .i64 (t:Int) ∧ Hid (PlI wr wq base v u (flK K rs t) (flK K cols t))) (fun tv _ _ _ => n2 - (intOf tv).toNat)
   case atStart => exact ⟨0,Nat.zero_le _,rfl,Hj ⟨World.ownsRow_nil _ _ _ _,World.ownsRow_nil _ _ _ _,fun g hg => (by simp [Value.ownBlock] at hg),Below.refl _ _,Nat.le_of_eq (Uh HBS).symm⟩⟩
   case round =>
    obtain ⟨t,ht,rfl,HP⟩:=hrel
    have hbx:=Uh HNB wr (Uh HP).bel
    by_cases hlt:t < n2
    ·have hlt':(t:Int) < (n2:Int):=by omega
     obtain ⟨r,c,hrR,hcN,hr,hc⟩:=Uh HPL t hlt
     obtain ⟨br,or_,e1,hc1⟩:=hbx.2.2.1.at (by omega)
     obtain ⟨bc,oc,e2,hc2⟩:=hbx.2.2.2.1.at (by omega)
     subst e1 e2
     have s0:=hc1 t hlt
     have s1:=hc2 t hlt
     rw [hr] at s0
     rw [hc] at s1
     have hsx:r < q:=by omega
     have hsx':(r:Int) < (q:Int):=by omega
     have a0:=(hbx.2.2.2.2.1 r hsx).1
     obtain ⟨z,hz⟩:∃ z,pzI xs q r = z:=⟨_,rfl⟩
     simp only [hz] at a0
     have hKt:K t ↔ z ≤ i:=by
      rw [← Uh HK]
      show cdP false true (pzI xs q) i (rs.getD t 0).toNat (cols.getD t 0).toNat ↔ _
      rw [hr,hc]
      simp only [cdP,Int.toNat_natCast]
      rw [← hz]
      simp
     have hle:=(Uh HP).le
     clear hbx hc1 hc2 hz
     by_cases hzi:z ≤ i
     ·have hzi':(z:Int) ≤ (i:Int):=by omega
      have dz:decide (z ≤ i) = true:=by simp [hzi]
      have HE:=Hj (show flK K rs (t + 1) = flK K rs t ++ [(r:Int)] ∧ flK K cols (t + 1) = flK K cols t ++ [(c:Int)] from by
       have hk:=hKt.2 hzi
       simp only [flK]
       rw [if_pos (tb_iff.2 hk),if_pos (tb_iff.2 hk),hr,hc]
       exact ⟨rfl,rfl⟩)
      have hrs1:=flK_le (K:=K) (L:=rs) t
      have hcs1:=flK_le (K:=K) (L:=cols) t
      have HS1:=Hj hc
      obtain ⟨Lr,hLr⟩:∃ L,flK K rs t = L:=⟨_,rfl⟩
      obtain ⟨Lc,hLc⟩:∃ L,flK K cols t = L:=⟨_,rfl⟩
      rw [hLr,hLc] at HP HE
      rw [hLr] at hrs1
      rw [hLc] at hcs1
      clear hLr hLc hKt hzi hr hc
      go_wp2_with (at_builtin; refine wpList_append_lies _ rfl _ _ 23 rfl base 3 i64 (.int .i64 0) 1 8 Tryz.underlying23 (Uh HI).1 (Uh HI).2.1 (Uh HI).2.2.1 (Uh HI).2.2.2 rfl (by decide) _ Lr.length (valsI Lr) rfl ((Uh HP).own1.alloc _) ⟨wr.heap.size,0,none⟩ 1 1 [.int .i64 (r:Int)] rfl rfl (World.news_of_block (alloc_block _ _)) ?c21 (by decide) ?c22 ?c23 ?c24 (wr.heap.size + 1) (by simp) ?_)
      case c21 => intro z hz; simp at hz; rcases hz with rfl; rfl
      case c22 => unfold maxLen; omega
      case c23 => omega
      case c24 => simp; omega
      intro g1 cap1 w4 hown hg hat hlt4
      have HQ3:=Hj ((Uh HP).app _ hown hg hat)
      have hbx3:=Uh HNB w4 (Uh HQ3).bel
      obtain ⟨bc',oc',e2,hc2⟩:=hbx3.2.2.2.1.at (by omega)
      cases e2
      have s13:=hc2 t hlt
      rw [Uh HS1] at s13
      have hle3:=(Uh HQ3).le
      clear hown hg hat hlt4 hc2 hbx3 s0 s1 a0
      go_wp2_with (at_builtin; refine wpList_append_lies _ rfl _ _ 23 rfl base 3 i64 (.int .i64 0) 1 8 Tryz.underlying23 (Uh HI).1 (Uh HI).2.1 (Uh HI).2.2.1 (Uh HI).2.2.2 rfl (by decide) _ Lc.length (valsI Lc) rfl ((Uh HQ3).own2.alloc _) ⟨w4.heap.size,0,none⟩ 1 1 [.int .i64 (c:Int)] rfl rfl (World.news_of_block (alloc_block _ _)) ?c31 (by decide) ?c32 ?c33 ?c34 (w4.heap.size + 1) (by simp) ?_)
      case c31 => intro z hz; simp at hz; rcases hz with rfl; rfl
      case c32 => unfold maxLen; omega
      case c33 => omega
      case c34 => simp; omega
      intro g2 cap2 w5 hown hg hat hlt5
      have HQ4:=Hj ((Uh HQ3).swap.app _ hown hg hat).swap
      clear hown hg hat hlt5 s13
      go_wp2_with fail
      refine ⟨⟨t + 1,by omega,by (first | rfl | go_num),Hj ?_⟩,by simp [intOf]; omega⟩
      rw [(Uh HE).1,(Uh HE).2]
      exact Uh HQ4
     ·have hzi':¬ (z:Int) ≤ (i:Int):=by omega
      have dz:decide (z ≤ i) = false:=by simp; omega
      have HE:=Hj (show flK K rs (t + 1) = flK K rs t ∧ flK K cols (t + 1) = flK K cols t from by
       have hk:¬ K t:=fun e => hzi (hKt.1 e)
       simp only [flK]
       rw [if_neg (fun e => hk (tb_iff.1 e)),if_neg (fun e => hk (tb_iff.1 e)),List.append_nil,List.append_nil]
       exact ⟨rfl,rfl⟩)
      clear hKt hzi hr hc
      go_wp2_with fail
      refine ⟨⟨t + 1,by omega,by (first | rfl | go_num),Hj ?_⟩,by simp [intOf]; omega⟩
      rw [(Uh HE).1,(Uh HE).2]
      exact Uh HP
    ·obtain rfl:t = n2:=by omega
     have hlt':¬ (t:Int) < (t:Int):=by omega
     obtain ⟨x1,d1,rfl,sr⟩:=own_slI (Uh HP).own1
     obtain ⟨x2,d2,rfl,sc⟩:=own_slI (Uh HP).own2
     obtain ⟨n,hn⟩:∃ n,(flK K rs t).length = n:=⟨_,rfl⟩
     have hn2:=flK_len (K:=K) (L:=rs) (M:=cols) t
     have hnle:=flK_le (K:=K) (L:=rs) t
     rw [← hn2] at sc ⊢
     have hkk:=Uh HKEP K (fun t' r c ht' hr hc => by
      rw [← Uh HK]
      show cdP false true (pzI xs q) i (rs.getD t' 0).toNat (cols.getD t' 0).toNat ↔ _
      rw [hr,hc]
      simp only [Int.toNat_natCast]
      obtain ⟨r',c',q1,q2,q3,q4⟩:=Uh HPL t' ht'
      exact (Uh HCD r c (by omega) (by omega)).symm)
     have hins:=fun j (hj:j < n) => (show 0 ≤ (flK K rs t).getD j 0 ∧ (flK K rs t).getD j 0 < (R:Int) ∧ 0 ≤ (flK K cols t).getD j 0 ∧ (flK K cols t).getD j 0 < (N:Int) from by
      obtain ⟨j',a,b,d,e⟩:=flK_from (K:=K) (rs:=rs) (cs:=cols) t j (by rw [hn]; exact hj)
      obtain ⟨r',c',q1,q2,q3,q4⟩:=Uh HPL j' a
      rw [d,e,q3,q4]
      omega)
     rw [hn] at sr sc hnle hkk ⊢
     have KB:=Hj (show Calls Tryz.prog 48 #[.int .i64 (R:Int),.int .i64 (N:Int),.slice x1 n d1,.slice x2 n d2] wr fun e w' => ∃ a1 c1 a2 c2,e = .returned (.tuple #[.agg #[.int .i64 (R:Int),.int .i64 (N:Int),.slice a1 S.length c1,.slice a2 C.length c2],.int .i64 0]) ∧ SlI w' a1 S.length c1 S ∧ SlI w' a2 C.length c2 C ∧ Below wr.heap.size wr w' ∧ (∀ z,a1 = some z → wr.heap.size ≤ z.block) ∧ (∀ z,a2 = some z → wr.heap.size ≤ z.block) from by
      have:=wbuild_any R N n x1 d1 x2 d2 (flK K rs t) (flK K cols t) wr hR8 hN8 sr sc (by omega) hins
      rw [hkk.1,hkk.2] at this
      exact this)
     have p0:=(hbx.1.all 0 _ rfl).1
     have p1:=(hbx.1.all 1 _ rfl).1
     have HBX:=Hj hbx
     have HGE:=Hj (show base ≤ wr.heap.size from (Uh HP).le)
     clear hbx sr sc hn hn2 hnle hkk hins
     go_wp2_with fail
     refine (Uh KB).mono ?_
     rintro _ wk ⟨y1,e1,y2,e2,rfl,g1,g2,bk,f1,f2⟩
     clear KB p0 p1
     try dsimp only
     repeat ((fail_if_success (with_reducible (show Code.wp _ _ _ _ (World.alloc wk (Obj.cells #[_,_,_,.slice y2 C.length e2] _))))); (first | go_values | go_skip | go_guarded | go_step | go_upon | go_back))
     have hQ:=BoxP.made wk #[.int .i64 (R:Int),.int .i64 (N:Int),.slice y1 S.length e1,.slice y2 C.length e2] 25
     have bq:Below wk.heap.size wk (wk.alloc (.cells #[.int .i64 (R:Int),.int .i64 (N:Int),.slice y1 S.length e1,.slice y2 C.length e2] 25)):=bAl
     have bkq:=bk.trans (bq.mono bk.size)
     have HG:=Hj (And.intro (g1.below bq) (g2.below bq))
     have HFr:=Hj (And.intro f1 f2)
     have hbx:=Uh HBX
     have HOq:=Hj (hbx.2.1.below bkq)
     have hbW:=hbx.2.2.2.2.2
     have HBW:=Hj (hbW.trans (bkq.mono hbW.size))
     have HSZ:=Hj (show wb.heap.size < wr.heap.size from by have:=Uh HLO; have:=Uh HGE; omega)
     clear bk bq bkq g1 g2 f1 f2 hbx hbW
     generalize wk.alloc (.cells #[.int .i64 (R:Int),.int .i64 (N:Int),.slice y1 S.length e1,.slice y2 C.length e2] 25) = wz at *
     have z0:=(hQ.all 0 _ rfl).1
     have z1:=(hQ.all 1 _ rfl).1
     have z2:=(hQ.all 2 _ rfl).1
     have z3:=(hQ.all 3 _ rfl).1
     have o0:=((Uh HOq).all 0 _ rfl).1
     have o1:=((Uh HOq).all 1 _ rfl).1
     have o2:=((Uh HOq).all 2 _ rfl).1
     have o3:=((Uh HOq).all 3 _ rfl).1
     have v0:=((Uh HOq).all 0 _ rfl).2
     have v1:=((Uh HOq).all 1 _ rfl).2
     have v2:=((Uh HOq).all 2 _ rfl).2
     have v3:=((Uh HOq).all 3 _ rfl).2
     clear hQ
     go_wp2_with fail
     have hf:=((((Uh HOq).put 0 (.int .i64 (R:Int))).put 1 (.int .i64 (N:Int))).put 2 (.slice y1 S.length e1)).put 3 (.slice y2 C.length e2)
     have t0:=(hf.all 0 _ rfl).1
     have t1:=(hf.all 1 _ rfl).1
     have t2:=(hf.all 2 _ rfl).1
     have t3:=(hf.all 3 _ rfl).1
     have cc:Chg (fun j => j = wb.heap.size) wz ((((wz.setCell ⟨wb.heap.size,0,none⟩ (.int .i64 (R:Int))).setCell ⟨wb.heap.size,1,none⟩ (.int .i64 (N:Int))).setCell ⟨wb.heap.size,2,none⟩ (.slice y1 S.length e1)).setCell ⟨wb.heap.size,3,none⟩ (.slice y2 C.length e2)):=(((Chg.of_set (S:=fun j => j = wb.heap.size) _ _ _ _ rfl).trans (Chg.of_set (S:=fun j => j = wb.heap.size) _ _ _ _ rfl)).trans (Chg.of_set (S:=fun j => j = wb.heap.size) _ _ _ _ rfl)).trans (Chg.of_set (S:=fun j => j = wb.heap.size) _ _ _ _ rfl)
     generalize (((wz.setCell ⟨wb.heap.size,0,none⟩ (.int .i64 (R:Int))).setCell ⟨wb.heap.size,1,none⟩ (.int .i64 (N:Int))).setCell ⟨wb.heap.size,2,none⟩ (.slice y1 S.length e1)).setCell ⟨wb.heap.size,3,none⟩ (.slice y2 C.length e2) = wf at *
     refine bodyPost_ret (by simp [results,Tryz.results23,go_sem,t0,t1,t2,t3]; try rfl) rfl ?_
     have h8:=Uh HSZ
     have h9:=Uh HWB
     refine ⟨y1,e1,y2,e2,rfl,(Uh HG).1.chg cc (fun z hz _ e => ?_),(Uh HG).2.chg cc (fun z hz _ e => ?_),?_,fun z hz => ?_,fun z hz => ?_⟩
     ·have:=(Uh HFr).1 z hz; have e:z.block = wb.heap.size:=e; omega
     ·have:=(Uh HFr).2 z hz; have e:z.block = wb.heap.size:=e; omega
     ·have hk:=Uh HBW
      exact hk.trans (cc.below hk.size (fun j hj e => by have e:j = wb.heap.size:=e; omega))
     ·have:=(Uh HFr).1 z hz; omega
     ·have:=(Uh HFr).2 z hz; omega
set_option maxRecDepth 100000 in
set_option maxHeartbeats 32000000 in
theorem wpart_both (k:Int) (hk2:(k == 2) = false) (hk3:(k == 3) = false) (R N m i:Nat) (a1 a2 a:Option Addr) (n1 c1 n2 c2 ca:Nat) (st cols xs:List Int) (w:World) (h1:SlI w a1 n1 c1 st) (h2:SlI w a2 n2 c2 cols) (h3:SlI w a m ca xs) (hb1:n1 ≤ 17592186044000) (hb2:n2 ≤ 17592186044000) (hm:MayP (R:Int) (N:Int) st cols) (ho:OrdTo xs m m) (hm8:m ≤ 128) (hmN:N ≤ m) (hmR:R ≤ m) (Cd:Nat → Nat → Prop) (hCd:∀ r c,r < R → c < N → (Cd r c ↔ cdP false false (pzI xs m) i r c)) :
  Calls Tryz.prog 23 #[.int .i64 k,patV (R:Int) (N:Int) a1 n1 c1 a2 n2 c2,.slice a m ca,.int .i64 (i:Int)] w fun e w' => GpQ w w' e R N (grS (fun r c => InC st cols c r ∧ Cd r c) N R) (grC (fun r c => InC st cols c r ∧ Cd r c) N R):=by
 have hfit:=hm.head.fit
 have hR8:R ≤ 128:=by omega
 have hN8:N ≤ 128:=by omega
 obtain ⟨S,hS⟩:∃ S,grS (fun r c => InC st cols c r ∧ Cd r c) N R = S:=⟨_,rfl⟩
 obtain ⟨C,hC⟩:∃ C,grC (fun r c => InC st cols c r ∧ Cd r c) N R = C:=⟨_,rfl⟩
 rw [hS,hC]
 obtain ⟨wb,hwb⟩:∃ x,w.alloc (.cells #[.int .i64 (R:Int),.int .i64 (N:Int),.slice a1 n1 c1,.slice a2 n2 c2] 25) = x:=⟨_,rfl⟩
 have bb:Below w.heap.size w wb:=by rw [← hwb]; exact bAl
 have hT:=BoxP.made w #[.int .i64 (R:Int),.int .i64 (N:Int),.slice a1 n1 c1,.slice a2 n2 c2] 25
 rw [hwb] at hT
 have hO0:=BoxP.made wb #[.int .i64 0,.int .i64 0,.slice none 0 0,.slice none 0 0] 25
 obtain ⟨wo,hwo⟩:∃ x,wb.alloc (.cells #[.int .i64 0,.int .i64 0,.slice none 0 0,.slice none 0 0] 25) = x:=⟨_,rfl⟩
 have bo:Below wb.heap.size wb wo:=by rw [← hwo]; exact bAl
 rw [hwo] at hO0
 have hT1:=hT.below bo
 have p0:=(hT1.all 0 _ rfl).1
 have p1:=(hT1.all 1 _ rfl).1
 have p2:=(hT1.all 2 _ rfl).1
 have p3:=(hT1.all 3 _ rfl).1
 have bw:=bb.trans (bo.mono bb.size)
 have KP:=Hj (wplaces_yes R (N:Int) a1 a2 n1 c1 n2 c2 st cols wo (h1.below bw) (h2.below bw) hb1 hb2 hm)
 unfold patV at KP
 obtain ⟨rs,hrs⟩:∃ rs,plR st R = rs:=⟨_,rfl⟩
 rw [hrs] at KP
 have hg:=plR_get hm R (Nat.le_refl _)
 have hl2:=h2.len
 have hstR:((n2:Nat):Int) = st.getD R 0:=by have:=hm.head.last; simp only [Int.toNat_natCast] at this; rw [this,hl2]
 have hlr:rs.length = n2:=by have:=plR_len hm R (Nat.le_refl _); rw [hrs] at this; omega
 rw [hrs] at hg
 have HPL:=Hj (show ∀ t,t < n2 → ∃ r c:Nat,r < R ∧ c < N ∧ rs.getD t 0 = (r:Int) ∧ cols.getD t 0 = (c:Int) from fun t ht => by
  obtain ⟨r,q1,q2,q3⟩:=hg.2 t (by omega)
  obtain ⟨c,q4,q5⟩:=part_col hm (k:=r) (t:=t) q1 q2 q3
  exact ⟨r,c,q1,q4,hg.1 r t q1 q2 q3,q5⟩)
 have HKEP:=Hj (show ∀ K:Nat → Prop,(∀ t r c:Nat,t < n2 → rs.getD t 0 = (r:Int) → cols.getD t 0 = (c:Int) → (K t ↔ Cd r c)) → grS (PlQ (flK K rs n2) (flK K cols n2) (flK K rs n2).length) N R = S ∧ grC (PlQ (flK K rs n2) (flK K cols n2) (flK K rs n2).length) N R = C from fun K hK => by
  have key:∀ u v,u < R → v < N → (PlQ (flK K rs n2) (flK K cols n2) (flK K rs n2).length u v ↔ (InC st cols v u ∧ Cd u v)):=fun u v hu hv => by
   rw [← hrs]
   exact kept_iff hm hl2 (by rw [hrs]; exact hK) hu
  rw [← hS,← hC]
  exact ⟨grS_congrR key R (Nat.le_refl _),grC_congrR key R (Nat.le_refl _)⟩)
 have HT:=Hj hT1
 have HO:=Hj hO0
 have HB:=Hj bw
 have HXS:=Hj (h3.below bw)
 have HORD:=Hj ho
 have HLR:=Hj (And.intro hlr hl2)
 have HCD:=Hj hCd
 obtain ⟨i64,hi,hz,hs,hb⟩:=info_parts Tryz.info_i64
 have HI:=Hj (And.intro hi (And.intro hz (And.intro hs hb)))
 have HWB:=Hj bb.size
 clear hi hz hs hb hT hT1 hO0 bb bo bw h1 h2 h3 hm ho hCd hfit hS hC hrs hg hl2 hstR hlr
 unfold patV
 go_enter Tryz.func23,Tryz.ntmps23
 go_wp2_with fail
 refine (Uh KP).mono ?_
 rintro _ w2 ⟨⟨ar,dr,ac,dc,rfl,s1,s2⟩,b2⟩
 have HB2:=Hj ((Uh HB).trans (b2.mono (Uh HB).size))
 have HB2o:=Hj b2
 rw [(Uh HLR).1] at s1 ⊢
 rw [(Uh HLR).2] at s2 ⊢
 have HRC:=Hj (And.intro s1 s2)
 clear KP b2 s1 s2 p0 p1 p2 p3
 have hmk:=make_intsR m (by omega)
 go_wp2_with fail
 have hRoI:=RoV.made w2 m 3 (.int .i64 0)
 have ba:Below w2.heap.size w2 (w2.alloc (.cells (madeCells #[.int .i64 0] m) 3)):=bAl
 have hga:w2.heap.size < (w2.alloc (.cells (madeCells #[.int .i64 0] m) 3)).heap.size:=by simp
 generalize w2.alloc (.cells (madeCells #[.int .i64 0] m) 3) = w3 at *
 obtain ⟨ga,hgae⟩:∃ g,w2.heap.size = g:=⟨_,rfl⟩
 rw [hgae] at hRoI hga ⊢
 have hB3:=(Uh HB2).trans (ba.mono (Uh HB2).size)
 have hB3o:=(Uh HB2o).trans (ba.mono (Uh HB2o).size)
 have hwoga:wo.heap.size ≤ ga:=by rw [← hgae]; exact (Uh HB2o).size
 have HN3:=Hj (show ∀ W,Chg (fun j => j = ga) w3 W → BoxP W w.heap.size [.int .i64 (R:Int),.int .i64 (N:Int),.slice a1 n1 c1,.slice a2 n2 c2] ∧ BoxP W wb.heap.size [.int .i64 0,.int .i64 0,.slice none 0 0,.slice none 0 0] ∧ SlI W a m ca xs ∧ SlI W ar n2 dr rs ∧ SlI W ac n2 dc cols ∧ Below w.heap.size w W ∧ w3.heap.size ≤ W.heap.size from fun W c => by
  have hbW:=hB3.trans (c.below hB3.size (fun j hj e => by have e:j = ga:=e; have:=(Uh HB).size; omega))
  have hbo:=hB3o.trans (c.below hB3o.size (fun j hj e => by have e:j = ga:=e; omega))
  have n1':∀ (b:Nat),b < ga → ¬ (b = ga):=fun b h => by omega
  exact ⟨(Uh HT).below hbo,(Uh HO).below hbo,(Uh HXS).below hbo,((Uh HRC).1.below ba).chg c (fun z hz hne e => by have:=(Uh HRC).1.block_lt hne z hz; have e:z.block = ga:=e; omega),((Uh HRC).2.below ba).chg c (fun z hz hne e => by have:=(Uh HRC).2.block_lt hne z hz; have e:z.block = ga:=e; omega),hbW,c.size⟩)
 have HR3:=Hj hRoI
 clear hmk hRoI ba hgae hB3 hB3o
 go_wp2_with fail
 go_loopw [13] (fun kv wr => ∃ q:Nat,q ≤ m ∧ kv = .int .i64 (q:Int) ∧ Hid (RoV wr ga m (fun v => .int .i64 (pzI xs q v:Int))) ∧ Hid (Chg (fun j => j = ga) w3 wr)) (fun kv _ => m - (intOf kv).toNat)
 case atStart => exact ⟨0,Nat.zero_le _,rfl,Hj ((Uh HR3).congr (fun i hi => rfl)),Hj (Chg.refl _ _)⟩
 case round =>
  obtain ⟨q,hq,rfl,HR,HC⟩:=hrel
  have hx:=Uh HN3 wr (Uh HC)
  by_cases hlt:q < m
  ·have hlt':(q:Int) < (m:Int):=by omega
   obtain ⟨bx,ox,e1,hc1⟩:=hx.2.2.1.at (by omega)
   subst e1
   have s0:=hc1 q hlt
   have hrg:=(Uh HORD).rng q hlt
   obtain ⟨v,hv⟩:∃ v:Nat,xs.getD q 0 = (v:Int):=⟨(xs.getD q 0).toNat,by omega⟩
   rw [hv] at s0 hrg
   have hvm:v < m:=by omega
   have hvm':(v:Int) < (m:Int):=by omega
   have q0:=(Uh HR v hvm).1
   have q1:=(Uh HR v hvm).2
   have HR2:=Hj (show RoV (wr.setCell ⟨ga,v,none⟩ (.int .i64 (q:Int))) ga m (fun v => .int .i64 (pzI xs (q + 1) v:Int)) from ((Uh HR).put v (.int .i64 (q:Int)) hvm).congr (fun u hu => by
    by_cases e:u = v
    ·subst e
     rw [if_pos rfl]
     simp only [pzI]
     rw [if_pos hv]
    ·rw [if_neg e]
     simp only [pzI]
     rw [if_neg (fun e2 => e (by omega))]))
   have HC2:=Hj ((Uh HC).trans (Chg.of_set (S:=fun j => j = ga) wr ga v (.int .i64 (q:Int)) rfl))
   clear hx hc1 hv hrg
   go_wp2_with fail
   exact ⟨⟨q + 1,by omega,by (first | rfl | go_num),HR2,HC2⟩,by simp [intOf]; omega⟩
  ·obtain rfl:q = m:=by omega
   have hlt':¬ (q:Int) < (q:Int):=by omega
   obtain ⟨base,hbase⟩:∃ b,wr.heap.size = b:=⟨_,rfl⟩
   have HBS:=Hj hbase
   have HLO:=Hj (show w3.heap.size ≤ base ∧ ga < base ∧ wo.heap.size ≤ ga ∧ wb.heap.size < wo.heap.size from by have:=hx.2.2.2.2.2.2; have:=(Uh HO).lt; omega)
   have HNB:=Hj (show ∀ W,Below base wr W → BoxP W w.heap.size [.int .i64 (R:Int),.int .i64 (N:Int),.slice a1 n1 c1,.slice a2 n2 c2] ∧ BoxP W wb.heap.size [.int .i64 0,.int .i64 0,.slice none 0 0,.slice none 0 0] ∧ SlI W ar n2 dr rs ∧ SlI W ac n2 dc cols ∧ RoV W ga q (fun v => .int .i64 (pzI xs q v:Int)) ∧ Below w.heap.size w W from fun W b => by
    rw [← hbase] at b
    exact ⟨hx.1.below b,hx.2.1.below b,hx.2.2.2.1.below b,hx.2.2.2.2.1.below b,(Uh HR).below b,hx.2.2.2.2.2.1.trans (b.mono hx.2.2.2.2.2.1.size)⟩)
   obtain ⟨K,hK⟩:∃ K:Nat → Prop,(fun t => cdP false false (pzI xs q) i (rs.getD t 0).toNat (cols.getD t 0).toNat) = K:=⟨_,rfl⟩
   have HK:=Hj hK
   clear hx hbase hK
   have hb2':n2 ≤ 17592186044000:=hb2
   go_wp2_with fail
   go_loopw [16,14,15] (fun tv v u wq => ∃ t:Nat,t ≤ n2 ∧ tv = .int .i64 (t:Int) ∧ Hid (PlI wr wq base v u (flK K rs t) (flK K cols t))) (fun tv _ _ _ => n2 - (intOf tv).toNat)
   case atStart => exact ⟨0,Nat.zero_le _,rfl,Hj ⟨World.ownsRow_nil _ _ _ _,World.ownsRow_nil _ _ _ _,fun g hg => (by simp [Value.ownBlock] at hg),Below.refl _ _,Nat.le_of_eq (Uh HBS).symm⟩⟩
   case round =>
    obtain ⟨t,ht,rfl,HP⟩:=hrel
    have hbx:=Uh HNB wr (Uh HP).bel
    by_cases hlt:t < n2
    ·have hlt':(t:Int) < (n2:Int):=by omega
     obtain ⟨r,c,hrR,hcN,hr,hc⟩:=Uh HPL t hlt
     obtain ⟨br,or_,e1,hc1⟩:=hbx.2.2.1.at (by omega)
     obtain ⟨bc,oc,e2,hc2⟩:=hbx.2.2.2.1.at (by omega)
     subst e1 e2
     have s0:=hc1 t hlt
     have s1:=hc2 t hlt
     rw [hr] at s0
     rw [hc] at s1
     have hsx:r < q:=by omega
     have hsx':(r:Int) < (q:Int):=by omega
     have hsy:c < q:=by omega
     have hsy':(c:Int) < (q:Int):=by omega
     have a0:=(hbx.2.2.2.2.1 r hsx).1
     have a9:=(hbx.2.2.2.2.1 c hsy).1
     obtain ⟨z,hz⟩:∃ z,pzI xs q r = z:=⟨_,rfl⟩
     obtain ⟨y,hy⟩:∃ y,pzI xs q c = y:=⟨_,rfl⟩
     simp only [hz] at a0
     simp only [hy] at a9
     have hKt:K t ↔ (z ≤ i ∧ y ≤ i):=by
      rw [← Uh HK]
      show cdP false false (pzI xs q) i (rs.getD t 0).toNat (cols.getD t 0).toNat ↔ _
      rw [hr,hc]
      simp only [cdP,Int.toNat_natCast]
      rw [← hz,← hy]
      simp
     have hle:=(Uh HP).le
     clear hbx hc1 hc2 hz hy
     by_cases hzi:z ≤ i ∧ y ≤ i
     ·have hzi':(z:Int) ≤ (i:Int):=by omega
      have hyi':(y:Int) ≤ (i:Int):=by omega
      have dz:decide (z ≤ i) = true:=by simp [hzi.1]
      have dy:decide (y ≤ i) = true:=by simp [hzi.2]
      have HE:=Hj (show flK K rs (t + 1) = flK K rs t ++ [(r:Int)] ∧ flK K cols (t + 1) = flK K cols t ++ [(c:Int)] from by
       have hk:=hKt.2 hzi
       simp only [flK]
       rw [if_pos (tb_iff.2 hk),if_pos (tb_iff.2 hk),hr,hc]
       exact ⟨rfl,rfl⟩)
      have hrs1:=flK_le (K:=K) (L:=rs) t
      have hcs1:=flK_le (K:=K) (L:=cols) t
      have HS1:=Hj hc
      obtain ⟨Lr,hLr⟩:∃ L,flK K rs t = L:=⟨_,rfl⟩
      obtain ⟨Lc,hLc⟩:∃ L,flK K cols t = L:=⟨_,rfl⟩
      rw [hLr,hLc] at HP HE
      rw [hLr] at hrs1
      rw [hLc] at hcs1
      clear hLr hLc hKt hzi hr hc
      go_wp2_with (at_builtin; refine wpList_append_lies _ rfl _ _ 23 rfl base 3 i64 (.int .i64 0) 1 8 Tryz.underlying23 (Uh HI).1 (Uh HI).2.1 (Uh HI).2.2.1 (Uh HI).2.2.2 rfl (by decide) _ Lr.length (valsI Lr) rfl ((Uh HP).own1.alloc _) ⟨wr.heap.size,0,none⟩ 1 1 [.int .i64 (r:Int)] rfl rfl (World.news_of_block (alloc_block _ _)) ?c21 (by decide) ?c22 ?c23 ?c24 (wr.heap.size + 1) (by simp) ?_)
      case c21 => intro z hz; simp at hz; rcases hz with rfl; rfl
      case c22 => unfold maxLen; omega
      case c23 => omega
      case c24 => simp; omega
      intro g1 cap1 w4 hown hg hat hlt4
      have HQ3:=Hj ((Uh HP).app _ hown hg hat)
      have hbx3:=Uh HNB w4 (Uh HQ3).bel
      obtain ⟨bc',oc',e2,hc2⟩:=hbx3.2.2.2.1.at (by omega)
      cases e2
      have s13:=hc2 t hlt
      rw [Uh HS1] at s13
      have hle3:=(Uh HQ3).le
      clear hown hg hat hlt4 hc2 hbx3 s0 s1 a0 a9
      go_wp2_with (at_builtin; refine wpList_append_lies _ rfl _ _ 23 rfl base 3 i64 (.int .i64 0) 1 8 Tryz.underlying23 (Uh HI).1 (Uh HI).2.1 (Uh HI).2.2.1 (Uh HI).2.2.2 rfl (by decide) _ Lc.length (valsI Lc) rfl ((Uh HQ3).own2.alloc _) ⟨w4.heap.size,0,none⟩ 1 1 [.int .i64 (c:Int)] rfl rfl (World.news_of_block (alloc_block _ _)) ?c31 (by decide) ?c32 ?c33 ?c34 (w4.heap.size + 1) (by simp) ?_)
      case c31 => intro z hz; simp at hz; rcases hz with rfl; rfl
      case c32 => unfold maxLen; omega
      case c33 => omega
      case c34 => simp; omega
      intro g2 cap2 w5 hown hg hat hlt5
      have HQ4:=Hj ((Uh HQ3).swap.app _ hown hg hat).swap
      clear hown hg hat hlt5 s13
      go_wp2_with fail
      refine ⟨⟨t + 1,by omega,by (first | rfl | go_num),Hj ?_⟩,by simp [intOf]; omega⟩
      rw [(Uh HE).1,(Uh HE).2]
      exact Uh HQ4
     ·have HE:=Hj (show flK K rs (t + 1) = flK K rs t ∧ flK K cols (t + 1) = flK K cols t from by
       have hk:¬ K t:=fun e => hzi (hKt.1 e)
       simp only [flK]
       rw [if_neg (fun e => hk (tb_iff.1 e)),if_neg (fun e => hk (tb_iff.1 e)),List.append_nil,List.append_nil]
       exact ⟨rfl,rfl⟩)
      by_cases hz1:z ≤ i
      ·have hzi':(z:Int) ≤ (i:Int):=by omega
       have hyi':¬ (y:Int) ≤ (i:Int):=by omega
       have dz:decide (z ≤ i) = true:=by simp [hz1]
       have dy:decide (y ≤ i) = false:=by simp; omega
       clear hKt hzi hr hc hz1
       go_wp2_with fail
       refine ⟨⟨t + 1,by omega,by (first | rfl | go_num),Hj ?_⟩,by simp [intOf]; omega⟩
       rw [(Uh HE).1,(Uh HE).2]
       exact Uh HP
      ·have hzi':¬ (z:Int) ≤ (i:Int):=by omega
       have dz:decide (z ≤ i) = false:=by simp; omega
       clear hKt hzi hr hc hz1
       go_wp2_with fail
       refine ⟨⟨t + 1,by omega,by (first | rfl | go_num),Hj ?_⟩,by simp [intOf]; omega⟩
       rw [(Uh HE).1,(Uh HE).2]
       exact Uh HP
    ·obtain rfl:t = n2:=by omega
     have hlt':¬ (t:Int) < (t:Int):=by omega
     obtain ⟨x1,d1,rfl,sr⟩:=own_slI (Uh HP).own1
     obtain ⟨x2,d2,rfl,sc⟩:=own_slI (Uh HP).own2
     obtain ⟨n,hn⟩:∃ n,(flK K rs t).length = n:=⟨_,rfl⟩
     have hn2:=flK_len (K:=K) (L:=rs) (M:=cols) t
     have hnle:=flK_le (K:=K) (L:=rs) t
     rw [← hn2] at sc ⊢
     have hkk:=Uh HKEP K (fun t' r c ht' hr hc => by
      rw [← Uh HK]
      show cdP false false (pzI xs q) i (rs.getD t' 0).toNat (cols.getD t' 0).toNat ↔ _
      rw [hr,hc]
      simp only [Int.toNat_natCast]
      obtain ⟨r',c',q1,q2,q3,q4⟩:=Uh HPL t' ht'
      exact (Uh HCD r c (by omega) (by omega)).symm)
     have hins:=fun j (hj:j < n) => (show 0 ≤ (flK K rs t).getD j 0 ∧ (flK K rs t).getD j 0 < (R:Int) ∧ 0 ≤ (flK K cols t).getD j 0 ∧ (flK K cols t).getD j 0 < (N:Int) from by
      obtain ⟨j',a,b,d,e⟩:=flK_from (K:=K) (rs:=rs) (cs:=cols) t j (by rw [hn]; exact hj)
      obtain ⟨r',c',q1,q2,q3,q4⟩:=Uh HPL j' a
      rw [d,e,q3,q4]
      omega)
     rw [hn] at sr sc hnle hkk ⊢
     have KB:=Hj (show Calls Tryz.prog 48 #[.int .i64 (R:Int),.int .i64 (N:Int),.slice x1 n d1,.slice x2 n d2] wr fun e w' => ∃ a1 c1 a2 c2,e = .returned (.tuple #[.agg #[.int .i64 (R:Int),.int .i64 (N:Int),.slice a1 S.length c1,.slice a2 C.length c2],.int .i64 0]) ∧ SlI w' a1 S.length c1 S ∧ SlI w' a2 C.length c2 C ∧ Below wr.heap.size wr w' ∧ (∀ z,a1 = some z → wr.heap.size ≤ z.block) ∧ (∀ z,a2 = some z → wr.heap.size ≤ z.block) from by
      have:=wbuild_any R N n x1 d1 x2 d2 (flK K rs t) (flK K cols t) wr hR8 hN8 sr sc (by omega) hins
      rw [hkk.1,hkk.2] at this
      exact this)
     have p0:=(hbx.1.all 0 _ rfl).1
     have p1:=(hbx.1.all 1 _ rfl).1
     have HBX:=Hj hbx
     have HGE:=Hj (show base ≤ wr.heap.size from (Uh HP).le)
     clear hbx sr sc hn hn2 hnle hkk hins
     go_wp2_with fail
     refine (Uh KB).mono ?_
     rintro _ wk ⟨y1,e1,y2,e2,rfl,g1,g2,bk,f1,f2⟩
     clear KB p0 p1
     try dsimp only
     repeat ((fail_if_success (with_reducible (show Code.wp _ _ _ _ (World.alloc wk (Obj.cells #[_,_,_,.slice y2 C.length e2] _))))); (first | go_values | go_skip | go_guarded | go_step | go_upon | go_back))
     have hQ:=BoxP.made wk #[.int .i64 (R:Int),.int .i64 (N:Int),.slice y1 S.length e1,.slice y2 C.length e2] 25
     have bq:Below wk.heap.size wk (wk.alloc (.cells #[.int .i64 (R:Int),.int .i64 (N:Int),.slice y1 S.length e1,.slice y2 C.length e2] 25)):=bAl
     have bkq:=bk.trans (bq.mono bk.size)
     have HG:=Hj (And.intro (g1.below bq) (g2.below bq))
     have HFr:=Hj (And.intro f1 f2)
     have hbx:=Uh HBX
     have HOq:=Hj (hbx.2.1.below bkq)
     have hbW:=hbx.2.2.2.2.2
     have HBW:=Hj (hbW.trans (bkq.mono hbW.size))
     have HSZ:=Hj (show wb.heap.size < wr.heap.size from by have:=Uh HLO; have:=Uh HGE; omega)
     clear bk bq bkq g1 g2 f1 f2 hbx hbW
     generalize wk.alloc (.cells #[.int .i64 (R:Int),.int .i64 (N:Int),.slice y1 S.length e1,.slice y2 C.length e2] 25) = wz at *
     have z0:=(hQ.all 0 _ rfl).1
     have z1:=(hQ.all 1 _ rfl).1
     have z2:=(hQ.all 2 _ rfl).1
     have z3:=(hQ.all 3 _ rfl).1
     have o0:=((Uh HOq).all 0 _ rfl).1
     have o1:=((Uh HOq).all 1 _ rfl).1
     have o2:=((Uh HOq).all 2 _ rfl).1
     have o3:=((Uh HOq).all 3 _ rfl).1
     have v0:=((Uh HOq).all 0 _ rfl).2
     have v1:=((Uh HOq).all 1 _ rfl).2
     have v2:=((Uh HOq).all 2 _ rfl).2
     have v3:=((Uh HOq).all 3 _ rfl).2
     clear hQ
     go_wp2_with fail
     have hf:=((((Uh HOq).put 0 (.int .i64 (R:Int))).put 1 (.int .i64 (N:Int))).put 2 (.slice y1 S.length e1)).put 3 (.slice y2 C.length e2)
     have t0:=(hf.all 0 _ rfl).1
     have t1:=(hf.all 1 _ rfl).1
     have t2:=(hf.all 2 _ rfl).1
     have t3:=(hf.all 3 _ rfl).1
     have cc:Chg (fun j => j = wb.heap.size) wz ((((wz.setCell ⟨wb.heap.size,0,none⟩ (.int .i64 (R:Int))).setCell ⟨wb.heap.size,1,none⟩ (.int .i64 (N:Int))).setCell ⟨wb.heap.size,2,none⟩ (.slice y1 S.length e1)).setCell ⟨wb.heap.size,3,none⟩ (.slice y2 C.length e2)):=(((Chg.of_set (S:=fun j => j = wb.heap.size) _ _ _ _ rfl).trans (Chg.of_set (S:=fun j => j = wb.heap.size) _ _ _ _ rfl)).trans (Chg.of_set (S:=fun j => j = wb.heap.size) _ _ _ _ rfl)).trans (Chg.of_set (S:=fun j => j = wb.heap.size) _ _ _ _ rfl)
     generalize (((wz.setCell ⟨wb.heap.size,0,none⟩ (.int .i64 (R:Int))).setCell ⟨wb.heap.size,1,none⟩ (.int .i64 (N:Int))).setCell ⟨wb.heap.size,2,none⟩ (.slice y1 S.length e1)).setCell ⟨wb.heap.size,3,none⟩ (.slice y2 C.length e2) = wf at *
     refine bodyPost_ret (by simp [results,Tryz.results23,go_sem,t0,t1,t2,t3]; try rfl) rfl ?_
     have h8:=Uh HSZ
     have h9:=Uh HWB
     refine ⟨y1,e1,y2,e2,rfl,(Uh HG).1.chg cc (fun z hz _ e => ?_),(Uh HG).2.chg cc (fun z hz _ e => ?_),?_,fun z hz => ?_,fun z hz => ?_⟩
     ·have:=(Uh HFr).1 z hz; have e:z.block = wb.heap.size:=e; omega
     ·have:=(Uh HFr).2 z hz; have e:z.block = wb.heap.size:=e; omega
     ·have hk:=Uh HBW
      exact hk.trans (cc.below hk.size (fun j hj e => by have e:j = wb.heap.size:=e; omega))
     ·have:=(Uh HFr).1 z hz; omega
     ·have:=(Uh HFr).2 z hz; omega
end Go.Proofs.YtgjokididdffhaaGreat
