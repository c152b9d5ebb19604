/- Dc3 -/
import Derived.Test.YtgjokididdffhaaGreatDc2
import Derived.Test.YtgjokididdffhaaGreatCi8
import Derived.Test.YtgjokididdffhaaGreatCk3
import Derived.Test.YtgjokididdffhaaGreatCxc
import Derived.Test.YtgjokididdffhaaGreatDa4
import Derived.Deep.DeepCutAuto
import Derived.Deep.Cut
namespace Go.Proofs.YtgjokididdffhaaGreat
open Go.RowKit Go.Deep
set_option linter.unusedVariables false
structure GlF (Gd:List Int → List Int → (Nat → Int) → Prop) (m:Nat) (S C xs:List Int) (cs:Nat → Int) (z:Nat):Prop where
 nn:∀ i,i < m → 0 ≤ cs i ∧ cs i < (z:Int)
 zm:z ≤ m
 all:∀ c:Nat,c < z → ∃ i,i < m ∧ cs i = (c:Int)
 good:Gd S C cs
 sub:∀ (S2 C2:List Int) (i:Nat),i < m → PaG S C S2 C2 xs m i → Gd S2 C2 cs
 bad:∀ (S2 C2:List Int) (i:Nat),i < m → PaG S C S2 C2 xs m i → ∀ y:Nat,(y:Int) < cs (xs.getD i 0).toNat → ¬ Gd S2 C2 (updC cs (xs.getD i 0).toNat y)
section
variable {S C xs:List Int} {m z:Nat} {cs:Nat → Int} {Gd:List Int → List Int → (Nat → Int) → Prop}
theorem glF_of {Bar:(Nat → Int) → Nat → Nat → Prop} (ho:OrdTo xs m m) (hs:∀ j,j < m → 0 ≤ cs (xs.getD j 0).toNat ∧ ∀ y,y < (cs (xs.getD j 0).toNat).toNat → Bar (atK xs cs j) (xs.getD j 0).toNat y) (hz:NumC (csL cs m) (z:Int)) (hr:∀ i,i < m → -1 ≤ cs i ∧ cs i < (m:Int))
  (hu:∀ j,j < m → ∀ y:Nat,Bar (atK xs cs j) (xs.getD j 0).toNat y → ∃ u,u < m ∧ atK xs cs j u = (y:Int)) (hg:Gd S C cs) (hsub:∀ (S2 C2:List Int) (i:Nat),i < m → PaG S C S2 C2 xs m i → Gd S2 C2 cs)
  (hbad:∀ (S2 C2:List Int) (i:Nat),i < m → PaG S C S2 C2 xs m i → ∀ y:Nat,Bar (atK xs cs i) (xs.getD i 0).toNat y → ¬ Gd S2 C2 (updC cs (xs.getD i 0).toNat y)):GlF Gd m S C xs cs z:=by
 obtain ⟨z0,z1,z2⟩:=numC_rng hz hr
 have h0:=all_nn ho (fun j hj => (hs j hj).1)
 refine ⟨fun i hi => ⟨h0 i hi,z2 i hi⟩,by omega,fun c hc => ?_,hg,hsub,fun S2 C2 i hi hP y hy => hbad S2 C2 i hi hP y ((hs i hi).2 y (by omega))⟩
 have hz':MaxTo (-1 :: csL cs m) ((csL cs m).length + 1) ((z:Int) - 1):=hz
 have hat:∃ u,u < m ∧ cs u = (z:Int) - 1:=by
  obtain ⟨i,hi,e⟩:=hz'.at_
  cases i with
  | zero => simp at e; omega
  | succ i =>
   rw [csL_len] at hi
   refine ⟨i,by omega,?_⟩
   rw [← e]
   have:=csL_get (cs:=cs) (R:=m) (i:=i) (by omega)
   rw [← this]
   simp [List.getD]
 obtain ⟨u,hu1,hu2⟩:=hat
 by_cases e:c + 1 = z
 ·exact ⟨u,hu1,by omega⟩
 ·obtain ⟨j,hj,hju⟩:=ord_at ho hu1
  obtain ⟨t,ht,et⟩:=hu j hj c ((hs j hj).2 c (by rw [hju,hu2]; omega))
  obtain ⟨j',hj',ej'⟩:=atK_was (show atK xs cs j t ≠ -1 by omega)
  exact ⟨t,ht,by rw [← et,atK_in ⟨j',hj',ej'⟩]⟩
theorem glF_nb (hm:MayP (m:Int) (m:Int) S C) (hg:GraP S C m m) (ho:OrdTo xs m m) (hp:PntN S C xs m cs) (hz:NumC (csL cs m) (z:Int)):GlF (fun S C => PrG S C m) m S C xs cs z:=by
 have hs:=((PntN.g.1 hp).steps (ord_dist ho)).2
 have hG:PrG S C m cs:=pnt_nb hm hg ho (fun j hj => ⟨(hs j hj).1,(hs j hj).2.may⟩)
 exact glF_of (Bar:=BarN S C) ho (fun j hj => ⟨(hs j hj).1,(hs j hj).2.bar⟩) hz (fun i hi => PntN.rng hm (fun i hi => ho.rng i hi) (Nat.le_refl _) hp i) (fun j hj y h => h.used hm (ord_lt ho hj)) hG (fun S2 C2 i hi hP => PrG.sub hP.sub hG) (fun S2 C2 i hi hP y h => bar_n hm hP ho hi h)
theorem glF_st (hm:MayP (m:Int) (m:Int) S C) (hg:GraP S C m m) (ho:OrdTo xs m m) (hp:PntI S C xs m cs) (hz:NumC (csL cs m) (z:Int)):GlF (fun S C => StG S C m) m S C xs cs z:=by
 have hs:=((PntI.g.1 hp).steps (ord_dist ho)).2
 have hG:StG S C m cs:=⟨pnt_nb hm hg ho (fun j hj => ⟨(hs j hj).1,fun hb => (hs j hj).2.may (.inl hb)⟩),pnt_st hm hg ho (fun j hj => ⟨(hs j hj).1,(hs j hj).2.may⟩)⟩
 exact glF_of (Bar:=BarP S C) ho (fun j hj => ⟨(hs j hj).1,(hs j hj).2.bar⟩) hz (fun i hi => PntI.rng hm (fun i hi => ho.rng i hi) (Nat.le_refl _) hp i) (fun j hj y h => h.used hm (ord_lt ho hj)) hG (fun S2 C2 i hi hP => StG.sub hP.sub hG) (fun S2 C2 i hi hP y h => bar_s hm hg hP ho hi h)
theorem glF_ac (hm:MayP (m:Int) (m:Int) S C) (hg:GraP S C m m) (ho:OrdTo xs m m) (hp:PntA S C m xs m cs) (hz:NumC (csL cs m) (z:Int)):GlF (fun S C => AcG S C m) m S C xs cs z:=by
 have hs:=((PntA.g.1 hp).steps (ord_dist ho)).2
 have h0:=all_nn ho (fun j hj => (hs j hj).1)
 have hN:PrG S C m cs:=pnt_nb hm hg ho (fun j hj => ⟨(hs j hj).1,fun hb => (hs j hj).2.may (.inl hb)⟩)
 have hA:=PntA.acy hm hg ho (Nat.le_refl _) hp
 have hG:AcG S C m cs:=⟨hN,fun u v ha => hA _ _ (h0 u ha.1) (h0 v ha.2.1)⟩
 refine glF_of (Bar:=BarA S C m) ho (fun j hj => ⟨(hs j hj).1,(hs j hj).2.bar⟩) hz (fun i hi => PntA.rng hm hg (fun i hi => ho.rng i hi) (Nat.le_refl _) hp i) (fun j hj y h => h.used hm (fun u v ha hu e => ?_) (ord_lt ho hj)) hG (fun S2 C2 i hi hP => AcG.sub hP.sub hG) (fun S2 C2 i hi hP y h => bar_a hm hg hP ho hi h)
 obtain ⟨j1,k1,e1⟩:=atK_was (show atK xs cs j u ≠ -1 by omega)
 obtain ⟨j2,k2,e2⟩:=atK_was (show atK xs cs j v ≠ -1 by omega)
 rw [atK_in ⟨j1,k1,e1⟩,atK_in ⟨j2,k2,e2⟩] at e
 exact hN u v ha e
end
theorem cnP_many {P:Nat → Prop} {f:Nat → Int}:∀ (p:Nat) (L:List Nat),L.Nodup → (∀ y,y ∈ L → ∃ j,j < p ∧ P j ∧ f j = (y:Int)) → L.length ≤ cnP P p
 | 0,L,_,h => by
  cases L with
  | nil => exact Nat.zero_le _
  | cons y l => obtain ⟨j,hj,_⟩:=h y List.mem_cons_self; omega
 | p + 1,L,hn,h => by
  rw [cnP_next]
  by_cases hP:P p
  ·rw [if_pos (tb_iff.2 hP)]
   by_cases hy:∃ y,y ∈ L ∧ f p = (y:Int)
   ·obtain ⟨y,hy,e⟩:=hy
    have h1:=cnP_many p (L.erase y) (hn.erase y) (fun z hz => by
     have hz2:=(List.Nodup.mem_erase_iff hn).1 hz
     obtain ⟨j,hj,h3,h4⟩:=h z hz2.2
     refine ⟨j,?_,h3,h4⟩
     have:j ≠ p:=fun e2 => by
      subst e2
      rw [e] at h4
      exact hz2.1 (by omega)
     omega)
    rw [List.length_erase_of_mem hy] at h1
    omega
   ·have h1:=cnP_many p L hn (fun z hz => by
     obtain ⟨j,hj,h3,h4⟩:=h z hz
     refine ⟨j,?_,h3,h4⟩
     have:j ≠ p:=fun e2 => by
      subst e2
      exact hy ⟨z,hz,h4⟩
     omega)
    omega
  ·have h1:=cnP_many p L hn (fun z hz => by
    obtain ⟨j,hj,h3,h4⟩:=h z hz
    refine ⟨j,?_,h3,h4⟩
    have:j ≠ p:=fun e2 => by
     subst e2
     exact hP h3
    omega)
   omega
theorem cnP_few {P:Nat → Prop} {cs:Nat → Int} {z p:Nat} (h1:∀ a b,a < p → b < p → P a → P b → cs a = cs b → a = b) (h2:∀ a,a < p → P a → 0 ≤ cs a ∧ cs a < (z:Int)):cnP P p ≤ z:=by
 have key:∀ q,q ≤ p → ∃ L:List Nat,L.Nodup ∧ L.length = cnP P q ∧ ∀ c,c ∈ L → ∃ a,a < q ∧ P a ∧ cs a = (c:Int):=by
  intro q
  induction q with
  | zero => exact fun _ => ⟨[],List.nodup_nil,rfl,fun c hc => by simp at hc⟩
  | succ q ih =>
   intro hq
   obtain ⟨L,l1,l2,l3⟩:=ih (by omega)
   rw [cnP_next]
   by_cases hP:P q
   ·rw [if_pos (tb_iff.2 hP)]
    have hb:=h2 q (by omega) hP
    refine ⟨(cs q).toNat :: L,List.nodup_cons.2 ⟨fun hc => ?_,l1⟩,by simp [l2],fun c hc => ?_⟩
    ·obtain ⟨a,ha,hPa,e⟩:=l3 _ hc
     have:=h1 a q (by omega) (by omega) hPa hP (by omega)
     omega
    ·rcases List.mem_cons.1 hc with e | e
     ·exact ⟨q,by omega,hP,by omega⟩
     ·obtain ⟨a,ha,hPa,e⟩:=l3 _ e
      exact ⟨a,by omega,hPa,e⟩
   ·rw [if_neg (fun e => hP (tb_iff.1 e))]
    refine ⟨L,l1,l2,fun c hc => ?_⟩
    obtain ⟨a,ha,hPa,e⟩:=l3 _ hc
    exact ⟨a,by omega,hPa,e⟩
 obtain ⟨L,l1,l2,l3⟩:=key p (Nat.le_refl _)
 rw [← l2]
 have:=cnP_many (P:=fun _ => True) (f:=fun j => (j:Int)) z L l1 (fun y hy => by
  obtain ⟨a,ha,hPa,e⟩:=l3 y hy
  have:=h2 a ha hPa
  exact ⟨y,by omega,trivial,rfl⟩)
 have:=cnP_le (fun _ => True) z
 omega
section
variable {S C xs:List Int} {m z:Nat} {cs:Nat → Int} {wd:Bool}
theorem nea_one (hm:MayP (m:Int) (m:Int) S C) {v k:Nat} (h:adG S C m v k):NeaC S C xs m wd v k:=by
 obtain ⟨p,hp,e⟩:=mem_getD.1 ((ad_row hm h.1).1 h)
 exact .inl ⟨p,hp,e⟩
theorem nea_two (hm:MayP (m:Int) (m:Int) S C) {v b k:Nat} (h:adG S C m v b) (hb:posI xs m b < posI xs m v) (h2:adG S C m b k):NeaC S C xs m true v k:=by
 obtain ⟨p,hp,e⟩:=mem_getD.1 ((ad_row hm h.1).1 h)
 refine .inr ⟨rfl,p,hp,?_⟩
 rw [e,Int.toNat_natCast]
 exact ⟨hb,(ad_row hm h2.1).1 h2⟩
theorem pos_lt (ho:OrdTo xs m m) {j:Nat} (hj:j < m) {b:Nat} (h:atK xs cs j b ≠ -1):posI xs m b < posI xs m (xs.getD j 0).toNat:=by
 obtain ⟨i,hi,e⟩:=atK_was h
 rw [← e,posI_at ho (show i < m by omega) m (by omega) (Nat.le_refl _),posI_at ho hj m hj (Nat.le_refl _)]
 omega
theorem z_bound {Bar:(Nat → Int) → Nat → Nat → Prop} (ho:OrdTo xs m m) (hs:∀ j,j < m → 0 ≤ cs (xs.getD j 0).toNat ∧ ∀ y,y < (cs (xs.getD j 0).toNat).toNat → Bar (atK xs cs j) (xs.getD j 0).toNat y) (hz:∀ c:Nat,c < z → ∃ i,i < m ∧ cs i = (c:Int))
  (hn:∀ j,j < m → ∀ y:Nat,Bar (atK xs cs j) (xs.getD j 0).toNat y → ∃ u,atK xs cs j u = (y:Int) ∧ NeaC S C xs m wd (xs.getD j 0).toNat u) {q:Nat} (hq:LgT (bnF S C xs m wd) m q):z ≤ q:=by
 cases z with
 | zero => exact Nat.zero_le _
 | succ z =>
  obtain ⟨u,hu,e⟩:=hz z (by omega)
  obtain ⟨j,hj,ej⟩:=ord_at ho hu
  have h1:=hq.le u hu
  unfold bnF at h1
  have hp:(posI xs m u).toNat = j:=by rw [← ej,posI_at ho hj m hj (Nat.le_refl _)]; omega
  rw [hp] at h1
  have h2:=cnP_many (P:=fun i => NeaC S C xs m wd u (xs.getD i 0).toNat) (f:=fun i => cs (xs.getD i 0).toNat) j (List.range z) List.nodup_range (fun y hy => by
   have hy:=List.mem_range.1 hy
   obtain ⟨t,e1,e2⟩:=hn j hj y ((hs j hj).2 y (by rw [ej,e]; omega))
   obtain ⟨i,hi,ei⟩:=atK_was (show atK xs cs j t ≠ -1 by omega)
   refine ⟨i,hi,?_,?_⟩
   ·show NeaC S C xs m wd u (xs.getD i 0).toNat
    rw [ei,← ej]; exact e2
   ·show cs (xs.getD i 0).toNat = (y:Int)
    rw [ei,← e1,atK_in ⟨i,hi,ei⟩])
  rw [List.length_range] at h2
  omega
theorem z_nb (hm:MayP (m:Int) (m:Int) S C) (hg:GraP S C m m) (ho:OrdTo xs m m) (hp:PntN S C xs m cs) (hz:∀ c:Nat,c < z → ∃ i,i < m ∧ cs i = (c:Int)) {q:Nat} (hq:LgT (bnF S C xs m wd) m q):z ≤ q:=by
 have hs:=((PntN.g.1 hp).steps (ord_dist ho)).2
 exact z_bound (Bar:=BarN S C) ho (fun j hj => ⟨(hs j hj).1,(hs j hj).2.bar⟩) hz (fun j hj y h => by
  obtain ⟨u,ha,e⟩:=(barN_ad hm (ord_lt ho hj)).1 h
  exact ⟨u,e,nea_one hm ha⟩) hq
theorem z_st (hm:MayP (m:Int) (m:Int) S C) (hg:GraP S C m m) (ho:OrdTo xs m m) (hp:PntI S C xs m cs) (hz:∀ c:Nat,c < z → ∃ i,i < m ∧ cs i = (c:Int)) {q:Nat} (hq:LgT (bnF S C xs m true) m q):z ≤ q:=by
 have hs:=((PntI.g.1 hp).steps (ord_dist ho)).2
 exact z_bound (Bar:=BarP S C) ho (fun j hj => ⟨(hs j hj).1,(hs j hj).2.bar⟩) hz (fun j hj y h => by
  rcases (barP_ad hm (ord_lt ho hj)).1 h with h | ⟨b,c,d,a1,n1,a2,e2,_⟩
  ·obtain ⟨u,ha,e⟩:=(barN_ad hm (ord_lt ho hj)).1 h
   exact ⟨u,e,nea_one hm ha⟩
  ·exact ⟨c,e2,nea_two hm a1 (pos_lt ho hj n1) a2⟩) hq
theorem way_first {ad:Nat → Nat → Prop} {T:Nat → Prop} {a z:Nat} (w:WyP ad T a z):z = a ∨ ∃ d,T d ∧ ad a d:=by
 induction w with
 | here h => exact .inl rfl
 | go b d w hd e ih =>
  rcases ih with e1 | h
  ·subst e1; exact .inr ⟨d,hd,e⟩
  ·exact .inr h
theorem z_ac (hm:MayP (m:Int) (m:Int) S C) (hg:GraP S C m m) (ho:OrdTo xs m m) (hp:PntA S C m xs m cs) (hz:∀ c:Nat,c < z → ∃ i,i < m ∧ cs i = (c:Int)) {q:Nat} (hq:LgT (bnF S C xs m true) m q):z ≤ q:=by
 have hs:=((PntA.g.1 hp).steps (ord_dist ho)).2
 have hN:PrG S C m cs:=pnt_nb hm hg ho (fun j hj => ⟨(hs j hj).1,fun hb => (hs j hj).2.may (.inl hb)⟩)
 exact z_bound (Bar:=BarA S C m) ho (fun j hj => ⟨(hs j hj).1,(hs j hj).2.bar⟩) hz (fun j hj y h => by
  rcases h with h | ⟨u1,u2,c,hne,a1,a2,e1,e2,w⟩
  ·obtain ⟨u,ha,e⟩:=(barN_ad hm (ord_lt ho hj)).1 h
   exact ⟨u,e,nea_one hm ha⟩
  ·rcases way_first w with e | ⟨d,hd,ha⟩
   ·exact absurd e.symm hne
   ·refine ⟨d,hd.2.elim (fun e3 => ?_) id,nea_two hm a1 (pos_lt ho hj (show atK xs cs j u1 ≠ -1 by omega)) ha⟩
    obtain ⟨i1,k1,f1⟩:=atK_was (show atK xs cs j u1 ≠ -1 by omega)
    obtain ⟨i2,k2,f2⟩:=atK_was (show atK xs cs j d ≠ -1 by omega)
    rw [atK_in ⟨i1,k1,f1⟩] at e1
    rw [atK_in ⟨i2,k2,f2⟩] at e3
    exact absurd (e1.trans e3.symm) (hN u1 d ha)) hq
end
theorem edge_ex {R:Nat} {st cols:List Int} (hm:MayP (R:Int) (R:Int) st cols) (h:cols.length ≠ 0):∃ u v,adG st cols R u v:=by
 apply Classical.byContradiction
 intro hn
 have key:∀ k,k ≤ R → st.getD k 0 = 0:=by
  intro k
  induction k with
  | zero => exact fun _ => hm.head.first
  | succ k ih =>
   intro hk
   have h0:=ih (by omega)
   obtain ⟨X,Y,hR⟩:=hm.rowAt (k:=k) (by omega)
   have hX:=hR.hX
   have hY:=hR.hY
   rw [h0] at hX
   by_cases hlt:X < Y
   ·exfalso
    have hr:=hR.row.rng X (Nat.le_refl _) hlt
    exact hn ⟨k,(cols.getD X 0).toNat,by omega,by omega,X,by rw [hR.hX]; omega,by rw [hR.hY]; omega,by omega⟩
   ·rw [hY]; omega
 have hl:=hm.head.last
 rw [show ((R:Int)).toNat = R by omega,key R (Nat.le_refl _)] at hl
 omega
section
variable {R W m z n2:Nat} {st cols S C:List Int} {cs:Nat → Int}
theorem z_pos (h:∀ i,i < m → 0 ≤ cs i ∧ cs i < (z:Int)) (hm:0 < m):1 ≤ z:=by
 have:=h 0 hm
 omega
theorem fl_self (hm:MayP (R:Int) (R:Int) st cols) (hl2:cols.length = n2) (h:∀ i,i < R → 0 ≤ cs i ∧ cs i < (z:Int)) (hp:PrG st cols R cs) {q:Nat} (hq:(R = 0 → q = 0) ∧ (0 < R → q = max 1 (min 2 n2))):q ≤ z:=by
 rcases Nat.eq_zero_or_pos R with e | e
 ·rw [hq.1 e]; exact Nat.zero_le _
 ·have h1:=z_pos h e
  rw [hq.2 e]
  by_cases hn:n2 = 0
  ·omega
  ·obtain ⟨u,v,ha⟩:=edge_ex hm (by omega)
   have q1:=h u ha.1
   have q2:=h v ha.2.1
   have q3:=hp u v ha
   omega
theorem fl_cols (hm:MayP (R:Int) (W:Int) st cols) (h:∀ i,i < W → 0 ≤ cs i ∧ cs i < (z:Int)) (hp:PrG (grS (CoP st cols R) W W) (grC (CoP st cols R) W W) W cs) {q:Nat} (hq:(W = 0 → q = 0) ∧ (0 < W → ∃ y,LgT (fun r => (rowL st cols r).length) R y ∧ q = max 1 y)):q ≤ z:=by
 have hW:W ≤ 128:=by have:=hm.head.fit; omega
 rcases Nat.eq_zero_or_pos W with e | e
 ·rw [hq.1 e]; exact Nat.zero_le _
 ·have h1:=z_pos h e
  obtain ⟨y,hy,hqy⟩:=hq.2 e
  rcases hy.at_ with e0 | ⟨r,hr,e0⟩
  ·omega
  ·have h2:cnP (fun c => InC st cols c r) W ≤ z:=cnP_few (fun a b ha hb h3 h4 e2 => Classical.byContradiction (fun hne => hp a b ((co_gr hW ha hb).2 ⟨hne,r,hr,h3,h4⟩) e2)) (fun a ha _ => h a ha)
   have h3:(rowL st cols r).length = y:=e0
   rw [rowL_cnP hm hr] at h3
   omega
theorem fl_rows (hm:MayP (R:Int) (W:Int) st cols) (h:∀ i,i < R → 0 ≤ cs i ∧ cs i < (z:Int)) (hp:PrG (grS (RwP st cols W) R R) (grC (RwP st cols W) R R) R cs) {q:Nat} (hq:(R = 0 → q = 0) ∧ (0 < R → ∃ y,LgT (fun c => (grR (InC st cols) c R).length) W y ∧ q = max 1 y)):q ≤ z:=by
 have hR:R ≤ 128:=by have:=hm.head.fit; omega
 rcases Nat.eq_zero_or_pos R with e | e
 ·rw [hq.1 e]; exact Nat.zero_le _
 ·have h1:=z_pos h e
  obtain ⟨y,hy,hqy⟩:=hq.2 e
  rcases hy.at_ with e0 | ⟨c,hc,e0⟩
  ·omega
  ·have h2:cnP (fun r => InC st cols c r) R ≤ z:=cnP_few (fun a b ha hb h3 h4 e2 => Classical.byContradiction (fun hne => hp a b ((rw_gr hR ha hb).2 ⟨hne,c,hc,h3,h4⟩) e2)) (fun a ha _ => h a ha)
   have h3:(grR (InC st cols) c R).length = y:=e0
   rw [grR_cnP] at h3
   omega
end
def RunZ (k:Int) (R W n1 n2:Nat) (st cols:List Int) (m:Nat) (S C:List Int) (Gd:List Int → List Int → (Nat → Int) → Prop) (os:List Int):Prop:=∃ B F:Nat → Prop,
 (∀ (a1 a2 a:Option Addr) (c1 c2 c:Nat) w,SlI w a1 n1 c1 st → SlI w a2 n2 c2 cols → SlI w a m c os → Calls Tryz.prog 18 #[.int .i64 k,patV (R:Int) (W:Int) a1 n1 c1 a2 n2 c2,.slice a m c] w fun e w' => Below w.heap.size w w' ∧ ∃ (g:Nat) (cs:Nat → Int) (z:Nat),e = .returned (.tuple #[.slice (some ⟨g,0,none⟩) m m,.int .i64 (z:Int),.int .i64 0]) ∧ RoV w' g m (fun i => .int .i64 (cs i)) ∧ w.heap.size ≤ g ∧ GlF Gd m S C os cs z ∧ (∀ q,B q → z ≤ q) ∧ (∀ q,F q → q ≤ z)) ∧
 (∀ (a1 a2 a:Option Addr) (c1 c2 c:Nat) w,SlI w a1 n1 c1 st → SlI w a2 n2 c2 cols → SlI w a m c os → Calls Tryz.prog 19 #[.int .i64 k,patV (R:Int) (W:Int) a1 n1 c1 a2 n2 c2,.slice a m c] w fun e w' => Below w.heap.size w w' ∧ ∃ q:Nat,e = .returned (.tuple #[.int .i64 (q:Int),.int .i64 0]) ∧ B q) ∧
 (∀ (a1 a2:Option Addr) (c1 c2:Nat) w,SlI w a1 n1 c1 st → SlI w a2 n2 c2 cols → Calls Tryz.prog 20 #[.int .i64 k,patV (R:Int) (W:Int) a1 n1 c1 a2 n2 c2] w fun e w' => Below w.heap.size w w' ∧ ∃ q:Nat,e = .returned (.tuple #[.int .i64 (q:Int),.int .i64 0]) ∧ F q)
section
variable {k:Int} {R W n1 n2 m:Nat} {st cols S C os:List Int} {Q:Nat → Bool} {G G1 G2 G3:Nat} {wd:Bool} {P:Nat → Prop}
theorem run_nb (h:KdY k R W n1 n2 st cols m S C Q G G1 93 G3 wd) (ho:IsOrd os m)
  (hF:∀ (a1 a2:Option Addr) (c1 c2:Nat) w,SlI w a1 n1 c1 st → SlI w a2 n2 c2 cols → Calls Tryz.prog 20 #[.int .i64 k,patV (R:Int) (W:Int) a1 n1 c1 a2 n2 c2] w fun e w' => FlP m P w w' e)
  (hf:∀ (cs:Nat → Int) (z q:Nat),(∀ i,i < m → 0 ≤ cs i ∧ cs i < (z:Int)) → PrG S C m cs → (m = 0 → q = 0) ∧ (0 < m → P q) → q ≤ z):RunZ k R W n1 n2 st cols m S C (fun S C => PrG S C m) os:=by
 have hm8:=h.m8
 refine ⟨fun q => LgT (bnF S C os m wd) m q,fun q => (m = 0 → q = 0) ∧ (0 < m → P q),fun a1 a2 a c1 c2 c w g1 g2 g3 => ?_,fun a1 a2 a c1 c2 c w g1 g2 g3 => ?_,fun a1 a2 c1 c2 w g1 g2 => ?_⟩
 ·refine (cGreedy_nb k G G1 G3 wd R W m S C a m c os a1 a2 n1 c1 n2 c2 st cols w g1 g2 g3 (by omega) h.sl h.cl h.may (fun W' => h.task a1 a2 c1 c2 W')).mono (fun e w' q => ?_)
  obtain ⟨g,cs,z,e1,e2,e3,e4,e5⟩:=q.2.1 ho
  have hG:=glF_nb h.may h.gra ho.2 e2 e3
  exact ⟨q.1,g,cs,z,e1,e4,e5,hG,fun q hq => z_nb h.may h.gra ho.2 e2 hG.all hq,fun q hq => hf cs z q hG.nn hG.good hq⟩
 ·refine (cBound_yes k G G1 93 G3 wd R W m S C a m c os a1 a2 n1 c1 n2 c2 st cols w g1 g2 g3 (by omega) h.sl h.cl h.may (fun W' => h.task a1 a2 c1 c2 W')).mono (fun e w' q => ?_)
  obtain ⟨x,e1,e2⟩:=q.2.1 ho
  exact ⟨q.1,x,e1,e2⟩
 ·exact (hF a1 a2 c1 c2 w g1 g2).mono (fun e w' q => ⟨q.1,q.2⟩)
theorem run_st (h:KdY k R W n1 n2 st cols m S C Q G G1 102 G3 true) (ho:IsOrd os m)
  (hF:∀ (a1 a2:Option Addr) (c1 c2:Nat) w,SlI w a1 n1 c1 st → SlI w a2 n2 c2 cols → Calls Tryz.prog 20 #[.int .i64 k,patV (R:Int) (W:Int) a1 n1 c1 a2 n2 c2] w fun e w' => FlP m P w w' e)
  (hf:∀ (cs:Nat → Int) (z q:Nat),(∀ i,i < m → 0 ≤ cs i ∧ cs i < (z:Int)) → PrG S C m cs → (m = 0 → q = 0) ∧ (0 < m → P q) → q ≤ z):RunZ k R W n1 n2 st cols m S C (fun S C => StG S C m) os:=by
 have hm8:=h.m8
 refine ⟨fun q => LgT (bnF S C os m true) m q,fun q => (m = 0 → q = 0) ∧ (0 < m → P q),fun a1 a2 a c1 c2 c w g1 g2 g3 => ?_,fun a1 a2 a c1 c2 c w g1 g2 g3 => ?_,fun a1 a2 c1 c2 w g1 g2 => ?_⟩
 ·refine (cGreedy_st k G G1 G3 true R W m S C a m c os a1 a2 n1 c1 n2 c2 st cols w g1 g2 g3 (by omega) h.sl h.cl h.may (fun W' => h.task a1 a2 c1 c2 W')).mono (fun e w' q => ?_)
  obtain ⟨g,cs,z,e1,e2,e3,e4,e5⟩:=q.2.1 ho
  have hG:=glF_st h.may h.gra ho.2 e2 e3
  exact ⟨q.1,g,cs,z,e1,e4,e5,hG,fun q hq => z_st h.may h.gra ho.2 e2 hG.all hq,fun q hq => hf cs z q hG.nn hG.good.1 hq⟩
 ·refine (cBound_yes k G G1 102 G3 true R W m S C a m c os a1 a2 n1 c1 n2 c2 st cols w g1 g2 g3 (by omega) h.sl h.cl h.may (fun W' => h.task a1 a2 c1 c2 W')).mono (fun e w' q => ?_)
  obtain ⟨x,e1,e2⟩:=q.2.1 ho
  exact ⟨q.1,x,e1,e2⟩
 ·exact (hF a1 a2 c1 c2 w g1 g2).mono (fun e w' q => ⟨q.1,q.2⟩)
theorem run_ac (h:KdY k R W n1 n2 st cols m S C Q G G1 104 G3 true) (ho:IsOrd os m)
  (hF:∀ (a1 a2:Option Addr) (c1 c2:Nat) w,SlI w a1 n1 c1 st → SlI w a2 n2 c2 cols → Calls Tryz.prog 20 #[.int .i64 k,patV (R:Int) (W:Int) a1 n1 c1 a2 n2 c2] w fun e w' => FlP m P w w' e)
  (hf:∀ (cs:Nat → Int) (z q:Nat),(∀ i,i < m → 0 ≤ cs i ∧ cs i < (z:Int)) → PrG S C m cs → (m = 0 → q = 0) ∧ (0 < m → P q) → q ≤ z):RunZ k R W n1 n2 st cols m S C (fun S C => AcG S C m) os:=by
 have hm8:=h.m8
 refine ⟨fun q => LgT (bnF S C os m true) m q,fun q => (m = 0 → q = 0) ∧ (0 < m → P q),fun a1 a2 a c1 c2 c w g1 g2 g3 => ?_,fun a1 a2 a c1 c2 c w g1 g2 g3 => ?_,fun a1 a2 c1 c2 w g1 g2 => ?_⟩
 ·refine (cGreedy_ac k G G1 G3 true R W m S C a m c os a1 a2 n1 c1 n2 c2 st cols w g1 g2 g3 (by omega) h.sl h.cl h.may h.gra (fun W' => h.task a1 a2 c1 c2 W')).mono (fun e w' q => ?_)
  obtain ⟨g,cs,z,e1,e2,e3,e4,e5⟩:=q.2.1 ho
  have hG:=glF_ac h.may h.gra ho.2 e2 e3
  exact ⟨q.1,g,cs,z,e1,e4,e5,hG,fun q hq => z_ac h.may h.gra ho.2 e2 hG.all hq,fun q hq => hf cs z q hG.nn hG.good.1 hq⟩
 ·refine (cBound_yes k G G1 104 G3 true R W m S C a m c os a1 a2 n1 c1 n2 c2 st cols w g1 g2 g3 (by omega) h.sl h.cl h.may (fun W' => h.task a1 a2 c1 c2 W')).mono (fun e w' q => ?_)
  obtain ⟨x,e1,e2⟩:=q.2.1 ho
  exact ⟨q.1,x,e1,e2⟩
 ·exact (hF a1 a2 c1 c2 w g1 g2).mono (fun e w' q => ⟨q.1,q.2⟩)
theorem flo_self (hb2:n2 ≤ 17592186044000) (h:KdY k R W n1 n2 st cols m S C Q G G1 G2 94 wd):∀ (a1 a2:Option Addr) (c1 c2:Nat) w,SlI w a1 n1 c1 st → SlI w a2 n2 c2 cols → Calls Tryz.prog 20 #[.int .i64 k,patV (R:Int) (W:Int) a1 n1 c1 a2 n2 c2] w fun e w' => FlP m (fun q => q = max 1 (min 2 n2)) w w' e:=fun a1 a2 c1 c2 w g1 g2 =>
 cFloor_two k G G1 G2 wd R W m S C _ a1 a2 n1 c1 n2 c2 st cols w g1 g2 (h.task a1 a2 c1 c2) (fun W' g1 g2 => (ctwo_any (R:Int) (W:Int) a1 a2 n1 c1 n2 c2 W').mono (fun e w' ⟨he,hb⟩ => ⟨min 2 n2,by rw [he]; congr 2; omega,by omega,rfl,hb⟩))
end
structure GlK (k:Int) (R W n1 n2:Nat) (st cols:List Int) (m:Nat) (S C:List Int) (Gd:List Int → List Int → (Nat → Int) → Prop) (Q:Nat → Bool) (os:List Int):Prop where
 m8:m ≤ 128
 eq_:∀ (S C:List Int) (cs ds:Nat → Int),(∀ i,i < m → ds i = cs i) → Gd S C cs → Gd S C ds
 thg:∀ (a1 a2:Option Addr) (c1 c2:Nat) w,SlI w a1 n1 c1 st → SlI w a2 n2 c2 cols → Calls Tryz.prog 21 #[.int .i64 k,patV (R:Int) (W:Int) a1 n1 c1 a2 n2 c2] w fun e w' => TgQ w w' e m (m * m) Q
 run:RunZ k R W n1 n2 st cols m S C Gd os
 chk:∀ (n:Nat) (ys:List Int),n ≤ 17592186044000 → ChkP k (R:Int) (W:Int) n1 n2 n st cols ys (chV (tb (n = m ∧ MayC ys n)) (tb (Gd S C (fun j => ys.getD j 0))))
 pt:∀ i,i < m → PtY k R W n1 n2 st cols m S C Gd os i
section
variable {k:Int} {R W n1 n2 m:Nat} {st cols S C os:List Int} {Q:Nat → Bool}
theorem glK_one (hl2:cols.length = n2) (hb1:n1 ≤ 17592186044000) (hb2:n2 ≤ 17592186044000) (h:KdY 1 R R n1 n2 st cols R st cols Q 49 92 93 94 false) (ho:IsOrd os R):GlK 1 R R n1 n2 st cols R st cols (fun S C => PrG S C R) Q os :=
 ⟨h.m8,fun S C cs ds e k => PrG.eq e k,h.thg,run_nb h ho (flo_self hb2 h) (fun cs z q a b c => fl_self h.may hl2 a b c),fun n ys hn => chk1_val hb1 hb2 hn h.may h,fun i hi => pt_one R i hb1 hb2 h.may h.gra ho.2 hi⟩
theorem glK_star (hl2:cols.length = n2) (hb1:n1 ≤ 17592186044000) (hb2:n2 ≤ 17592186044000) (h:KdY 4 R R n1 n2 st cols R st cols Q 49 101 102 94 true) (ho:IsOrd os R):GlK 4 R R n1 n2 st cols R st cols (fun S C => StG S C R) Q os :=
 ⟨h.m8,fun S C cs ds e k => StG.eq e k,h.thg,run_st h ho (flo_self hb2 h) (fun cs z q a b c => fl_self h.may hl2 a b c),fun n ys hn => chk4_val hb1 hb2 hn h.may h,fun i hi => pt_star R i hb1 hb2 h.may h.gra ho.2 hi⟩
theorem glK_acyc (hl2:cols.length = n2) (hb1:n1 ≤ 17592186044000) (hb2:n2 ≤ 17592186044000) (h:KdY 5 R R n1 n2 st cols R st cols Q 49 103 104 94 true) (ho:IsOrd os R):GlK 5 R R n1 n2 st cols R st cols (fun S C => AcG S C R) Q os :=
 ⟨h.m8,fun S C cs ds e k => AcG.eq e k,h.thg,run_ac h ho (flo_self hb2 h) (fun cs z q a b c => fl_self h.may hl2 a b c),fun n ys hn => chk5_val hb1 hb2 hn h.may h,fun i hi => pt_acyc R i hb1 hb2 h.may h.gra ho.2 hi⟩
theorem glK_cols (hb1:n1 ≤ 17592186044000) (hb2:n2 ≤ 17592186044000) (hm:MayP (R:Int) (W:Int) st cols) (h:KdY 2 R W n1 n2 st cols W (grS (CoP st cols R) W W) (grC (CoP st cols R) W W) Q 95 96 93 97 false) (ho:IsOrd os W):GlK 2 R W n1 n2 st cols W (grS (CoP st cols R) W W) (grC (CoP st cols R) W W) (fun S C => PrG S C W) Q os :=
 ⟨h.m8,fun S C cs ds e k => PrG.eq e k,h.thg,run_nb h ho (fun a1 a2 c1 c2 w g1 g2 => cFloor_lrow 2 _ _ _ false R W W _ _ (fun q => ∃ y,LgT (fun r => (rowL st cols r).length) R y ∧ q = max 1 y) a1 a2 n1 c1 n2 c2 st cols w g1 g2 (h.task a1 a2 c1 c2) (fun W' q1 q2 => (clrow_any R W a1 a2 n1 c1 n2 c2 st cols W' q1 q2 hb1 hb2 hm).mono (fun e w' ⟨y,he,hy,hb⟩ => ⟨y,he,by
  rcases hy.at_ with e0 | ⟨r,hr,e0⟩
  ·omega
  ·have e1:(rowL st cols r).length = y:=e0
   rw [rowL_cnP hm hr] at e1
   have:=cnP_le (fun c => InC st cols c r) W
   have:=h.m8
   omega,⟨y,hy,rfl⟩,hb⟩))) (fun cs z q a b c => fl_cols hm a b c),fun n ys hn => chk2_val hb1 hb2 hn hm h,fun i hi => pt_cols R W i hb1 hb2 hm ho.2 hi⟩
theorem glK_rows (hb1:n1 ≤ 17592186044000) (hb2:n2 ≤ 17592186044000) (hm:MayP (R:Int) (W:Int) st cols) (h:KdY 3 R W n1 n2 st cols R (grS (RwP st cols W) R R) (grC (RwP st cols W) R R) Q 98 99 93 100 false) (ho:IsOrd os R):GlK 3 R W n1 n2 st cols R (grS (RwP st cols W) R R) (grC (RwP st cols W) R R) (fun S C => PrG S C R) Q os :=
 ⟨h.m8,fun S C cs ds e k => PrG.eq e k,h.thg,run_nb h ho (fun a1 a2 c1 c2 w g1 g2 => cFloor_lcol 3 _ _ _ false R W R _ _ (fun q => ∃ y,LgT (fun c => (grR (InC st cols) c R).length) W y ∧ q = max 1 y) a1 a2 n1 c1 n2 c2 st cols w g1 g2 (h.task a1 a2 c1 c2) (fun W' q1 q2 => (clcol_any R W a1 a2 n1 c1 n2 c2 st cols W' q1 q2 hb1 hb2 hm).mono (fun e w' ⟨y,he,hy,hb⟩ => ⟨y,he,by
  rcases hy.at_ with e0 | ⟨r,hr,e0⟩
  ·omega
  ·have e1:(grR (InC st cols) r R).length = y:=e0
   have:=grR_len (InC st cols) r R
   have:=h.m8
   omega,⟨y,hy,rfl⟩,hb⟩))) (fun cs z q a b c => fl_rows hm a b c),fun n ys hn => chk3_val hb1 hb2 hn hm h,fun i hi => pt_rows R W i hb1 hb2 hm ho.2 hi⟩
end
structure ThK (w1 W:World) (B:Nat) (v:Value) (S:List Int):Prop where
 own:W.ownsRow B 3 1 v S.length (valsI S)
 bel:Below B w1 W
 le:B ≤ W.heap.size
theorem ThK.app {w1 W W3:World} {B:Nat} {v:Value} {S:List Int} {x:Int} {g cap:Nat} (h:ThK w1 W B v S) (o:Obj) (hown:W3.ownsRow B 3 1 (.slice (some ⟨g,0,none⟩) (S.length + 1) cap) (S.length + 1) (valsI S ++ [.int .i64 x])) (hg:(W.alloc o).grownBy W3 v.ownBlock):ThK w1 W3 B (.slice (some ⟨g,0,none⟩) (S.length + 1) cap) (S ++ [x]):=by
 have hB:Below B W W3:=Below.grown ((Below.refl B W).alloc h.le o) hg (by simp; have:=h.le; omega) (fun j hj => (own_ge h.own j hj).1)
 exact ⟨by simpa [valsI] using hown,h.bel.trans hB,Nat.le_trans h.le hB.size⟩

end Go.Proofs.YtgjokididdffhaaGreat
