/- Cxk -/
import Derived.Test.YtgjokididdffhaaGreatCxj
import Derived.Test.YtgjokididdffhaaGreatCxe
import Derived.Test.YtgjokididdffhaaGreatCx8
import Derived.Test.YtgjokididdffhaaGreatCj1
import Derived.Test.YtgjokididdffhaaGreatCk3
import Derived.Test.YtgjokididdffhaaGreatCxd
import Derived.Test.YtgjokididdffhaaGreatCi1
import Derived.Test.YtgjokididdffhaaGreatCx4
import Derived.Test.YtgjokididdffhaaGreatDa2
import Derived.Lib.MinMax
import Derived.Test.YtgjokididdffhaaGreatChm
import Derived.Test.YtgjokididdffhaaGreatChd
import Derived.Test.YtgjokididdffhaaGreatCv1
namespace Go.Proofs.YtgjokididdffhaaGreat
open Go.RowKit Go.Deep
set_option linter.unusedVariables false
theorem FoP.set {ad:Nat → Nat → Prop} {T T':Nat → Prop} (h:FoP ad T) (k:∀ v,T' v → T v):FoP ad T':=fun S hS hc => h S (fun v hv => k v (hS v hv)) hc
section
variable {st cols:List Int} {R:Nat} {xs:List Int}
noncomputable def rkC (xs:List Int) (i:Nat):Int:=((rkI xs (xs.getD i 0):Nat):Int)
theorem at_mem {xs:List Int} {i:Nat} (h:i < xs.length):xs.getD i 0 ∈ xs:=by simp [List.getD,h]
theorem rkC_inj {i j:Nat} (hi:i < xs.length) (hj:j < xs.length):rkC xs i = rkC xs j ↔ xs.getD i 0 = xs.getD j 0:=by
 unfold rkC
 rw [← rkI_inj (at_mem hi) (at_mem hj)]
 omega
theorem rkC_rng {i:Nat} (hi:i < xs.length):0 ≤ rkC xs i ∧ rkC xs i < (xs.length:Int):=by
 have:=(rkI_lt (at_mem hi)).1
 unfold rkC
 omega
def SrP (xs:List Int) (p:Nat × Nat) (c d:Int):Prop:=c ≤ d ∧ ((xs.getD p.1 0 = c ∧ xs.getD p.2 0 = d) ∨ (xs.getD p.1 0 = d ∧ xs.getD p.2 0 = c))
theorem tw_rk (hl:xs.length = R) {u v:Nat} (hu:u < R) (hv:v < R) (w:Nat):TwC (rkC xs) R (rkC xs u) (rkC xs v) w ↔ TwC (fun i => xs.getD i 0) R (xs.getD u 0) (xs.getD v 0) w:=by
 unfold TwC
 constructor
 ·rintro ⟨h,k⟩
  exact ⟨h,k.imp (rkC_inj (by omega) (by omega)).1 (rkC_inj (by omega) (by omega)).1⟩
 ·rintro ⟨h,k⟩
  exact ⟨h,k.imp (rkC_inj (by omega) (by omega)).2 (rkC_inj (by omega) (by omega)).2⟩
def CiP (st cols:List Int) (R:Nat) (xs:List Int) (c d:Int):Prop:=∃ u v,adG st cols R u v ∧ xs.getD u 0 = c ∧ xs.getD v 0 = d ∧ c ≤ d ∧ ¬ FoP (adG st cols R) (TwC (fun i => xs.getD i 0) R c d)
theorem ClF.cip {cl:List (Nat × Nat)} (hg:GraP st cols R R) (hl:xs.length = R) (h:ClF st cols R (rkC xs) cl) (hpr:∀ u v,adG st cols R u v → xs.getD u 0 ≠ xs.getD v 0) (c d:Int):(∃ p ∈ cl,SrP xs p c d) ↔ CiP st cols R xs c d:=by
 constructor
 ·rintro ⟨p,hp,hcd,hs⟩
  obtain ⟨h1,h2,h3,h4⟩:=h.edge p hp
  have hF:¬ FoP (adG st cols R) (TwC (fun i => xs.getD i 0) R (xs.getD p.1 0) (xs.getD p.2 0)):=fun f => h4 (f.set (fun v k => (tw_rk hl h1.1 h1.2.1 v).1 k))
  rcases hs with ⟨e1,e2⟩ | ⟨e1,e2⟩
  ·rw [e1,e2] at hF
   exact ⟨p.1,p.2,h1,e1,e2,hcd,hF⟩
  ·rw [e1,e2] at hF
   exact ⟨p.2,p.1,adG.sy hg _ _ h1,e2,e1,hcd,fun f => hF (f.set (fun v k => k.swap))⟩
 ·rintro ⟨u,v,had,e1,e2,hcd,hF⟩
  have hne:=hpr u v had
  have hu:u < xs.length:=by have:=had.1; omega
  have hv:v < xs.length:=by have:=had.2.1; omega
  have hF2:¬ FoP (adG st cols R) (TwC (rkC xs) R (rkC xs u) (rkC xs v)):=fun f => by
   apply hF
   rw [← e1,← e2]
   exact f.set (fun w k => (tw_rk hl had.1 had.2.1 w).2 k)
  obtain ⟨p,hp,hq⟩:=h.all (rkC xs u) (rkC xs v) (rkC_rng hu).1 (rkC_rng hv).1 (fun e => hne ((rkC_inj hu hv).1 e)) hF2
  have hp1:=(h.edge p hp).1
  have l1:p.1 < xs.length:=by have:=hp1.1; omega
  have l2:p.2 < xs.length:=by have:=hp1.2.1; omega
  refine ⟨p,hp,hcd,?_⟩
  rw [← e1,← e2]
  exact hq.imp (fun k => ⟨(rkC_inj l1 hu).1 k.1,(rkC_inj l2 hv).1 k.2⟩) (fun k => ⟨(rkC_inj l1 hv).1 k.1,(rkC_inj l2 hu).1 k.2⟩)
def LeE (xs:List Int) (cl:List (Nat × Nat)) (i:Nat) (q:Option (Int × Int)):Prop:=BsI (fun c d => ∃ p ∈ cl.take i,SrP xs p c d) q
theorem LeE.zero {cl:List (Nat × Nat)}:LeE xs cl 0 none:=fun c d h => by obtain ⟨p,hp,_⟩:=h; simp at hp
def ltP (c d c' d':Int):Prop:=c < c' ∨ (c = c' ∧ d < d')
theorem srt_two (x y:Int):srtL [x,y] = [min x y,max x y]:=by
 unfold srtL
 rcases Int.le_total x y with h | h
 ·rw [Int.min_eq_left h,Int.max_eq_right h]
  exact List.mergeSort_of_pairwise (by simp [h])
 ·by_cases e:x = y
  ·subst e
   rw [Int.min_eq_left (Int.le_refl _),Int.max_eq_right (Int.le_refl _)]
   exact List.mergeSort_of_pairwise (by simp)
  ·rw [Int.min_eq_right h,Int.max_eq_left h]
   have hp:=List.mergeSort_perm [x,y] (fun x y => decide (x ≤ y))
   have hs:([x,y].mergeSort fun x y => decide (x ≤ y)).Pairwise (fun x y => decide (x ≤ y) = true):=List.pairwise_mergeSort (fun a b c h1 h2 => by simp at h1 h2 ⊢; omega) (fun a b => by simp; omega) _
   obtain ⟨s,es⟩:∃ s,([x,y].mergeSort fun x y => decide (x ≤ y)) = s:=⟨_,rfl⟩
   rw [es] at hp hs ⊢
   have hl:=hp.length_eq
   match s,hl with
   | [a,b],_ =>
    have ha:a ∈ [x,y]:=hp.subset (by simp)
    have hb:b ∈ [x,y]:=hp.subset (by simp)
    have hx:x ∈ [a,b]:=hp.symm.subset (by simp)
    have hy:y ∈ [a,b]:=hp.symm.subset (by simp)
    simp at ha hb hx hy hs
    congr 1
    ·omega
    ·congr 1; omega
theorem LeE.step {cl:List (Nat × Nat)} {i:Nat} {q:Option (Int × Int)} {p:Nat × Nat} (h:LeE xs cl i q) (hi:i < cl.length) (hp:cl[i]? = some p) {c d:Int} (hc:min (xs.getD p.1 0) (xs.getD p.2 0) = c) (hd:max (xs.getD p.1 0) (xs.getD p.2 0) = d) :
  (q = none → LeE xs cl (i + 1) (some (c,d))) ∧ (∀ c0 d0,q = some (c0,d0) → (ltP c d c0 d0 → LeE xs cl (i + 1) (some (c,d))) ∧ (¬ ltP c d c0 d0 → LeE xs cl (i + 1) q)):=by
 have ht:cl.take (i + 1) = cl.take i ++ [p]:=by
  rw [List.take_add_one,hp]; rfl
 have hS:∀ c' d',SrP xs p c' d' ↔ (c' = c ∧ d' = d):=fun c' d' => by
  unfold SrP
  omega
 have hE:∀ c' d',(∃ r ∈ cl.take (i + 1),SrP xs r c' d') ↔ ((∃ r ∈ cl.take i,SrP xs r c' d') ∨ (c' = c ∧ d' = d)):=fun c' d' => by
  rw [ht,← hS]
  constructor
  ·rintro ⟨r,hr,k⟩
   rcases List.mem_append.1 hr with e | e
   ·exact .inl ⟨r,e,k⟩
   ·rw [List.mem_singleton.1 e] at k; exact .inr k
  ·rintro (⟨r,hr,k⟩ | k)
   ·exact ⟨r,List.mem_append.2 (.inl hr),k⟩
   ·exact ⟨p,List.mem_append.2 (.inr (List.mem_singleton.2 rfl)),k⟩
 unfold LeE at h ⊢
 simp only [hE]
 refine ⟨fun e => ?_,fun c0 d0 e => ⟨fun hlt => ?_,fun hlt => ?_⟩⟩
 ·subst e
  exact ⟨.inr ⟨rfl,rfl⟩,fun c' d' k => by
   rcases k with k | ⟨rfl,rfl⟩
   ·exact absurd k (h c' d')
   ·exact .inr ⟨rfl,Int.le_refl _⟩⟩
 ·subst e
  exact ⟨.inr ⟨rfl,rfl⟩,fun c' d' k => by
   rcases k with k | ⟨rfl,rfl⟩
   ·have:=h.2 c' d' k
    unfold ltP at hlt
    omega
   ·exact .inr ⟨rfl,Int.le_refl _⟩⟩
 ·subst e
  exact ⟨.inl h.1,fun c' d' k => by
   rcases k with k | ⟨rfl,rfl⟩
   ·exact h.2 c' d' k
   ·unfold ltP at hlt
    omega⟩
end
def cuE (e:Nat → Nat) (v:Nat):Nat → Int:=fun i => if i < v then (e i:Int) else -1
def usE (e:Nat → Nat):Nat → Nat
 | 0 => 0
 | v + 1 => max (usE e v) (e v + 1)
def AgE (f e:Nat → Nat) (v:Nat):Prop:=∀ i,i < v → f i = e i
def upE (e:Nat → Nat) (v y:Nat):Nat → Nat:=fun i => if i = v then y else e i
theorem upE_same (e:Nat → Nat) (v y:Nat):upE e v y v = y:=by simp [upE]
theorem upE_other (e:Nat → Nat) {v i:Nat} (y:Nat) (h:i ≠ v):upE e v y i = e i:=by simp [upE,h]
theorem upE_ag (e:Nat → Nat) (v y:Nat):AgE (upE e v y) e v:=fun i hi => upE_other e y (by omega)
theorem AgE.cu {f e:Nat → Nat} {v:Nat} (h:AgE f e v):cuE f v = cuE e v:=by
 funext i
 unfold cuE
 by_cases hi:i < v
 ·rw [if_pos hi,if_pos hi,h i hi]
 ·rw [if_neg hi,if_neg hi]
theorem AgE.us {f e:Nat → Nat}:∀ {v:Nat},AgE f e v → usE f v = usE e v
 | 0,_ => rfl
 | v + 1,h => by
  unfold usE
  rw [AgE.us (v:=v) (fun i hi => h i (by omega)),h v (by omega)]
theorem AgE.refl (e:Nat → Nat) (v:Nat):AgE e e v:=fun _ _ => rfl
theorem AgE.mono {f e:Nat → Nat} {v u:Nat} (h:AgE f e v) (k:u ≤ v):AgE f e u:=fun i hi => h i (by omega)
theorem usE_succ (e:Nat → Nat) (v:Nat):usE e (v + 1) = max (usE e v) (e v + 1):=rfl
theorem usE_mono (e:Nat → Nat):∀ {v u:Nat},v ≤ u → usE e v ≤ usE e u
 | v,0,h => by rw [show v = 0 by omega]; exact Nat.le_refl _
 | v,u + 1,h => by
  by_cases k:v = u + 1
  ·rw [k]; exact Nat.le_refl _
  ·have:=usE_mono e (show v ≤ u by omega)
   rw [usE_succ]
   omega
theorem usE_small (e:Nat → Nat):∀ {v:Nat},(∀ j,j < v → e j ≤ usE e j) → usE e v ≤ v
 | 0,_ => Nat.le_refl _
 | v + 1,h => by
  have h1:=usE_small e (v:=v) (fun j hj => h j (by omega))
  have h2:=h v (by omega)
  rw [usE_succ]
  omega
section
variable {bar:(Nat → Int) → Nat → Nat → Prop} {m:Nat}
def VdE (bar:(Nat → Int) → Nat → Nat → Prop) (m:Nat) (e:Nat → Nat) (v:Nat):Prop:=∀ j,v ≤ j → j < m → e j ≤ usE e j ∧ ¬ bar (cuE e j) j (e j)
structure LpE (bar:(Nat → Int) → Nat → Nat → Prop) (m:Nat) (e:Nat → Nat) (v:Nat) (A:Nat → Prop) (best r:Nat):Prop where
 le:r ≤ best
 at_:r = best ∨ ∃ f,AgE f e v ∧ VdE bar m f v ∧ usE f m = r
 all:∀ f,AgE f e v → VdE bar m f v → A (f v) → r ≤ usE f m
def FwP (bar:(Nat → Int) → Nat → Nat → Prop) (m:Nat) (e:Nat → Nat) (v best r:Nat):Prop:=LpE bar m e v (fun _ => True) best r
theorem FwP.done {e:Nat → Nat} {v best:Nat} (hv:v ≤ m) (h:best ≤ usE e v ∨ v = m):FwP bar m e v best (min (usE e v) best):=by
 by_cases hb:best ≤ usE e v
 ·rw [Nat.min_eq_right hb]
  exact ⟨Nat.le_refl _,.inl rfl,fun f hf _ _ => by have:=usE_mono f hv; rw [hf.us] at this; omega⟩
 ·obtain rfl:v = m:=h.resolve_left hb
  rw [Nat.min_eq_left (by omega)]
  exact ⟨by omega,.inr ⟨e,AgE.refl _ _,fun j h1 h2 => by omega,rfl⟩,fun f hf _ _ => by rw [hf.us]; exact Nat.le_refl _⟩
theorem LpE.step {e:Nat → Nat} {v best r r' y:Nat} {A A':Nat → Prop} (h:LpE bar m e v A best r) (hv:v < m) (hy:y ≤ usE e v) (hb:¬ bar (cuE e v) v y) (g:FwP bar m (upE e v y) (v + 1) r r') (hA:∀ z,A' z → A z ∨ z = y):LpE bar m e v A' best r':=by
 have up:∀ f,AgE f (upE e v y) (v + 1) → AgE f e v ∧ f v = y:=fun f hf => ⟨fun i hi => by rw [hf i (by omega),upE_other _ _ (by omega)],by rw [hf v (by omega),upE_same]⟩
 refine ⟨Nat.le_trans g.le h.le,?_,fun f hf hV ha => ?_⟩
 ·rcases g.at_ with e1 | ⟨f,h1,h2,h3⟩
  ·rw [e1]; exact h.at_
  ·obtain ⟨u1,u2⟩:=up f h1
   refine .inr ⟨f,u1,fun j hj hjm => ?_,h3⟩
   by_cases e2:j = v
   ·subst e2
    rw [u1.us,u1.cu,u2]
    exact ⟨hy,hb⟩
   ·exact h2 j (by omega) hjm
 ·rcases hA _ ha with ha | ha
  ·exact Nat.le_trans g.le (h.all f hf hV ha)
  ·refine g.all f (fun i hi => ?_) (fun j hj hjm => hV j (by omega) hjm) trivial
   by_cases e2:i = v
   ·subst e2; rw [ha,upE_same]
   ·rw [upE_other _ _ e2]; exact hf i (by omega)
def SmP (Gd:(Nat → Nat) → Prop) (m:Nat) (e:Nat → Nat) (v k:Nat):Prop:=∃ f,AgE f e v ∧ (∀ j,v ≤ j → j < m → f j < k ∧ f j ≤ usE f j) ∧ Gd f
end
section
variable {S C:List Int} {m:Nat}
def GdN (S C:List Int) (m:Nat) (f:Nat → Nat):Prop:=∀ u v,adG S C m u v → f u ≠ f v
def GdS (S C:List Int) (m:Nat) (f:Nat → Nat):Prop:=GdN S C m f ∧ ∀ a b c d,¬ Pa4 (adG S C m) (fun i => (f i:Int)) a b c d
def GdA (S C:List Int) (m:Nat) (f:Nat → Nat):Prop:=GdN S C m f ∧ ∀ u v,adG S C m u v → f u ≤ f v → FoP (adG S C m) (TwC (fun i => (f i:Int)) m (f u:Int) (f v:Int))
end
noncomputable def atK (xs:List Int) (cs:Nat → Int) (k:Nat):Nat → Int:=fun i => if tb (∃ j,j < k ∧ (xs.getD j 0).toNat = i) = true then cs i else -1
theorem atK_in {xs:List Int} {cs:Nat → Int} {k i:Nat} (h:∃ j,j < k ∧ (xs.getD j 0).toNat = i):atK xs cs k i = cs i:=by unfold atK; rw [if_pos (tb_iff.2 h)]
theorem atK_out {xs:List Int} {cs:Nat → Int} {k i:Nat} (h:¬ ∃ j,j < k ∧ (xs.getD j 0).toNat = i):atK xs cs k i = -1:=by unfold atK; rw [if_neg (fun e => h (tb_iff.1 e))]
theorem PntG.steps {L:(Nat → Int) → Nat → Nat → Prop} {xs:List Int}:∀ {k:Nat} {cs:Nat → Int},(∀ i j,i < k → j < k → (xs.getD i 0).toNat = (xs.getD j 0).toNat → i = j) → PntG L xs k cs → atK xs cs k = cs ∧ ∀ j,j < k → 0 ≤ cs (xs.getD j 0).toNat ∧ L (atK xs cs j) (xs.getD j 0).toNat (cs (xs.getD j 0).toNat).toNat
 | 0,cs,hd,h => by
  unfold PntG at h
  subst h
  refine ⟨?_,fun j hj => by omega⟩
  funext i
  exact atK_out (fun ⟨j,hj,_⟩ => by omega)
 | k + 1,cs,hd,⟨c0,y,h1,h2,h3⟩ => by
  obtain ⟨i1,i2⟩:=PntG.steps (fun i j hi hj e => hd i j (by omega) (by omega) e) h1
  have hfr:c0 (xs.getD k 0).toNat = -1:=by
   rw [← i1]
   exact atK_out (fun ⟨j,hj,e⟩ => by have:=hd j k (by omega) (by omega) e; omega)
  have hold:∀ i,i ≠ (xs.getD k 0).toNat → cs i = c0 i:=fun i hi => by rw [h3,updC_other _ _ hi]
  have hnew:cs (xs.getD k 0).toNat = (y:Int):=by rw [h3,updC_same]
  have hpre:∀ j,j ≤ k → atK xs cs j = atK xs c0 j:=fun j hj => by
   funext i
   by_cases hi:∃ j',j' < j ∧ (xs.getD j' 0).toNat = i
   ·rw [atK_in hi,atK_in hi]
    obtain ⟨j',h5,h6⟩:=hi
    exact hold i (fun e => by have:=hd j' k (by omega) (by omega) (by rw [h6,e]); omega)
   ·rw [atK_out hi,atK_out hi]
  refine ⟨?_,fun j hj => ?_⟩
  ·funext i
   by_cases hi:∃ j,j < k + 1 ∧ (xs.getD j 0).toNat = i
   ·exact atK_in hi
   ·rw [atK_out hi,hold i (fun e => hi ⟨k,by omega,e.symm⟩),← i1]
    exact (atK_out (fun ⟨j,hj,e⟩ => hi ⟨j,by omega,e⟩)).symm
  ·by_cases e:j = k
   ·subst e
    rw [hnew,hpre j (Nat.le_refl _),i1]
    exact ⟨by omega,by rw [Int.toNat_natCast]; exact h2⟩
   ·have hne:(xs.getD j 0).toNat ≠ (xs.getD k 0).toNat:=fun e2 => e (hd j k hj (by omega) e2)
    rw [hold _ hne,hpre j (by omega)]
    exact i2 j (by omega)
theorem ord_dist {xs:List Int} {m:Nat} (ho:OrdTo xs m m):∀ i j,i < m → j < m → (xs.getD i 0).toNat = (xs.getD j 0).toNat → i = j:=fun i j hi hj e => by
 have h1:=ho.rng i hi
 have h2:=ho.rng j hj
 rcases Nat.lt_trichotomy i j with c | c | c
 ·exact absurd (show xs.getD i 0 = xs.getD j 0 by omega) (ho.one i j c hj)
 ·exact c
 ·exact absurd (show xs.getD j 0 = xs.getD i 0 by omega) (ho.one j i c hi)
theorem ord_at {xs:List Int} {m:Nat} (ho:OrdTo xs m m) {v:Nat} (hv:v < m):∃ j,j < m ∧ (xs.getD j 0).toNat = v:=by
 obtain ⟨j,h1,h2,_⟩:=ho.place hv
 exact ⟨j,h1,by rw [h2,Int.toNat_natCast]⟩
section
variable {S C xs:List Int} {m:Nat} {cs:Nat → Int}
theorem pnt_nb (hm:MayP (m:Int) (m:Int) S C) (hg:GraP S C m m) (ho:OrdTo xs m m) (h:∀ j,j < m → 0 ≤ cs (xs.getD j 0).toNat ∧ ¬ BarN S C (atK xs cs j) (xs.getD j 0).toNat (cs (xs.getD j 0).toNat).toNat):∀ u v,adG S C m u v → cs u ≠ cs v:=fun u v ha e => by
 have key:∀ a b ja jb,adG S C m b a → cs a = cs b → ja < m → jb < m → (xs.getD ja 0).toNat = a → (xs.getD jb 0).toNat = b → ja < jb → False:=fun a b ja jb ha e h1 h2 h3 h4 hl => by
  have hs:=h jb h2
  rw [h4] at hs
  refine hs.2 ((barN_ad hm ha.1).2 ⟨a,ha,?_⟩)
  rw [atK_in ⟨ja,hl,h3⟩]
  omega
 obtain ⟨ju,h1,h2⟩:=ord_at ho ha.1
 obtain ⟨jv,h3,h4⟩:=ord_at ho ha.2.1
 rcases Nat.lt_trichotomy ju jv with l | l | l
 ·exact key u v ju jv (adG.sy hg _ _ ha) e h1 h3 h2 h4 l
 ·subst l
  rw [h2] at h4
  subst h4
  exact adG.ir hg _ ha
 ·exact key v u jv ju ha e.symm h3 h1 h4 h2 l
theorem pnt_st (hm:MayP (m:Int) (m:Int) S C) (hg:GraP S C m m) (ho:OrdTo xs m m) (h:∀ j,j < m → 0 ≤ cs (xs.getD j 0).toNat ∧ ¬ BarP S C (atK xs cs j) (xs.getD j 0).toNat (cs (xs.getD j 0).toNat).toNat) (a b c d:Nat):¬ Pa4 (adG S C m) cs a b c d:=fun hp => by
 obtain ⟨ab,bc,hca,eca,cd,had,hdb,edb⟩:=hp
 have sy:=adG.sy hg
 have ir:=adG.ir hg
 have nab:a ≠ b:=fun e => ir a (by rw [e] at ab ⊢; exact ab)
 have nbc:b ≠ c:=fun e => ir b (by rw [← e] at bc; exact bc)
 have ncd:c ≠ d:=fun e => ir c (by rw [← e] at cd; exact cd)
 have key:∀ v b c d jv jb jc jd,adG S C m v b → adG S C m b c → cs c = cs v → d ≠ b → (adG S C m v d ∨ adG S C m c d) → cs d = cs b → jv < m → (xs.getD jv 0).toNat = v → jb < jv → (xs.getD jb 0).toNat = b → jc < jv → (xs.getD jc 0).toNat = c → jd < jv → (xs.getD jd 0).toNat = d → False:=fun v b c d jv jb jc jd h1 h2 h3 h4 h5 h6 v1 v2 b1 b2 c1 c2 d1 d2 => by
  have hs:=h jv v1
  rw [v2] at hs
  have hb0:=(h jb (by omega)).1
  rw [b2] at hb0
  refine hs.2 ((barP_ad hm h1.1).2 (.inr ⟨b,c,d,h1,?_,h2,?_,h4,h5,?_⟩))
  ·rw [atK_in ⟨jb,b1,b2⟩]; omega
  ·rw [atK_in ⟨jc,c1,c2⟩]; omega
  ·rw [atK_in ⟨jd,d1,d2⟩,atK_in ⟨jb,b1,b2⟩,h6]
 obtain ⟨ja,a1,a2⟩:=ord_at ho ab.1
 obtain ⟨jb,b1,b2⟩:=ord_at ho bc.1
 obtain ⟨jc,c1,c2⟩:=ord_at ho cd.1
 obtain ⟨jd,d1,d2⟩:=ord_at ho cd.2.1
 have nd:a ≠ d:=by omega
 have j1:ja ≠ jb:=fun e => nab (by rw [← a2,e,b2])
 have j2:ja ≠ jc:=fun e => hca (by rw [← a2,e,c2])
 have j3:ja ≠ jd:=fun e => nd (by rw [← a2,e,d2])
 have j4:jb ≠ jc:=fun e => nbc (by rw [← b2,e,c2])
 have j5:jb ≠ jd:=fun e => hdb (by rw [← b2,e,d2])
 have j6:jc ≠ jd:=fun e => ncd (by rw [← c2,e,d2])
 by_cases m1:jb < ja ∧ jc < ja ∧ jd < ja
 ·exact key a b c d ja jb jc jd ab bc eca hdb (.inr cd) edb a1 a2 m1.1 b2 m1.2.1 c2 m1.2.2 d2
 ·by_cases m2:ja < jb ∧ jc < jb ∧ jd < jb
  ·exact key b c d a jb jc jd ja bc cd edb (Ne.symm hca) (.inl (sy _ _ ab)) eca.symm b1 b2 m2.2.1 c2 m2.2.2 d2 m2.1 a2
  ·by_cases m3:ja < jc ∧ jb < jc ∧ jd < jc
   ·exact key c b a d jc jb ja jd (sy _ _ bc) (sy _ _ ab) eca.symm hdb (.inl cd) edb c1 c2 m3.2.1 b2 m3.1 a2 m3.2.2 d2
   ·exact key d c b a jd jc jb ja (sy _ _ cd) (sy _ _ bc) edb.symm (Ne.symm hca) (.inr (sy _ _ ab)) eca.symm d1 d2 (by omega) c2 (by omega) b2 (by omega) a2
end
section
variable {S C:List Int} {m:Nat}
end
structure OpE (V:(Nat → Nat) → Nat → Prop) (e:Nat → Nat) (v:Nat) (A:Nat → Prop) (best r:Nat):Prop where
 le:r ≤ best
 at_:r = best ∨ ∃ f,AgE f e v ∧ V f r
 all:∀ f z,AgE f e v → V f z → A (f v) → r ≤ z
section
variable {V:(Nat → Nat) → Nat → Prop} {e:Nat → Nat} {v best r:Nat}
theorem OpE.skip {y:Nat} (h:OpE V e v (fun x => x < y) best r) (k:∀ f z,AgE f e v → V f z → f v ≠ y):OpE V e v (fun x => x < y + 1) best r:=⟨h.le,h.at_,fun f z h1 h2 h3 => h.all f z h1 h2 (by have:=k f z h1 h2; omega)⟩
theorem OpE.step {y r':Nat} (h:OpE V e v (fun x => x < y) best r) (g:OpE V (upE e v y) (v + 1) (fun _ => True) r r'):OpE V e v (fun x => x < y + 1) best r':=by
 have up:∀ f,AgE f (upE e v y) (v + 1) → AgE f e v ∧ f v = y:=fun f hf => ⟨fun i hi => by rw [hf i (by omega),upE_other _ _ (by omega)],by rw [hf v (by omega),upE_same]⟩
 refine ⟨Nat.le_trans g.le h.le,?_,fun f z h1 h2 h3 => ?_⟩
 ·rcases g.at_ with e1 | ⟨f,h1,h2⟩
  ·rw [e1]; exact h.at_
  ·exact .inr ⟨f,(up f h1).1,h2⟩
 ·by_cases e2:f v = y
  ·refine g.all f z (fun i hi => ?_) h2 trivial
   by_cases e3:i = v
   ·subst e3; rw [upE_same,e2]
   ·rw [upE_other _ _ e3]; exact h1 i (by omega)
  ·exact Nat.le_trans g.le (h.all f z h1 h2 (by omega))
theorem OpE.done {m z:Nat} (hc:∀ f z',AgE f e m → V f z' → z' = z) (hz:V e z):OpE V e m (fun _ => True) best (min z best):=by
 by_cases hb:best ≤ z
 ·rw [Nat.min_eq_right hb]
  exact ⟨Nat.le_refl _,.inl rfl,fun f z' h1 h2 _ => by rw [hc f z' h1 h2]; exact hb⟩
 ·rw [Nat.min_eq_left (by omega)]
  exact ⟨by omega,.inr ⟨e,AgE.refl _ _,hz⟩,fun f z' h1 h2 _ => by rw [hc f z' h1 h2]; exact Nat.le_refl _⟩
end

def PvE (bar:(Nat → Int) → Nat → Nat → Prop) (e:Nat → Nat) (v:Nat):Prop:=∀ j,j < v → e j ≤ usE e j ∧ ¬ bar (cuE e j) j (e j)
theorem PvE.up {bar:(Nat → Int) → Nat → Nat → Prop} {e:Nat → Nat} {v y:Nat} (h:PvE bar e v) (hy:y ≤ usE e v) (hb:¬ bar (cuE e v) v y):PvE bar (upE e v y) (v + 1):=fun j hj => by
 have ag:=upE_ag e v y
 by_cases k:j = v
 ·subst k
  rw [ag.us,ag.cu,upE_same]
  exact ⟨hy,hb⟩
 ·rw [(ag.mono (show j ≤ v by omega)).us,(ag.mono (show j ≤ v by omega)).cu,upE_other _ _ k]
  exact h j (by omega)
structure FwS (Arr:World → Prop) (w w':World) (X R:Nat) (vs:List Value) (b1:Option Addr) (m1 d1:Nat) (b2:Option Addr) (m2 d2:Nat) (g h cnt t:Nat) (cs:Nat → Int) (st cols:List Int):Prop where
 bru:∃ vs' cnt' ls',BrI w' X R vs' b1 m1 d1 b2 m2 d2 g h cnt' cs ls' st cols ∧ (∀ j,j < R → ls' j ≤ (cnt':Int)) ∧ vs'[2]? = vs[2]? ∧ vs'.length = vs.length ∧ cnt' ≤ cnt + t
 arr:Arr w'
 chg:Chg (fun j => j = g ∨ j = h ∨ j = X) w w'
theorem FwS.trans {Arr:World → Prop} {w w2 w3:World} {X R:Nat} {vs vs1:List Value} {b1:Option Addr} {m1 d1:Nat} {b2:Option Addr} {m2 d2:Nat} {g h cnt cnt1 t t1:Nat} {cs:Nat → Int} {st cols:List Int} (k1:Chg (fun j => j = g ∨ j = h ∨ j = X) w w2) (e1:vs1[2]? = vs[2]?) (e2:vs1.length = vs.length) (e3:cnt1 ≤ cnt + t) (k:FwS Arr w2 w3 X R vs1 b1 m1 d1 b2 m2 d2 g h cnt1 t1 cs st cols) {t2:Nat} (ht:t + t1 ≤ t2):FwS Arr w w3 X R vs b1 m1 d1 b2 m2 d2 g h cnt t2 cs st cols:=by
 obtain ⟨vs',cnt',ls',h1,h2,h3,h4,h5⟩:=k.bru
 exact ⟨⟨vs',cnt',ls',h1,h2,h3.trans e1,h4.trans e2,by omega⟩,k.arr,k1.trans k.chg⟩

section
variable {X R:Nat} {b1:Option Addr} {m1 d1:Nat} {b2:Option Addr} {m2 d2:Nat} {g h:Nat} {st cols:List Int}
theorem PvE.us {bar:(Nat → Int) → Nat → Nat → Prop} {e:Nat → Nat} {v:Nat} (h:PvE bar e v):usE e v ≤ v:=usE_small e (fun j hj => (h j hj).1)
end
def cmpC (x y:Int):Int:=if x < y then -1 else if y < x then 1 else 0
set_option maxHeartbeats 400000 in
theorem nanC_int (x:Int) (w:World):Calls Tryz.prog 137 #[.int .i64 x] w fun e w' => e = .returned (.bool false) ∧ w' = w:=by
 have h:(x != x) = false:=by simp
 go_enter Tryz.func137,Tryz.ntmps137
 go_wp2
 go_ret
 exact ⟨by simp,rfl⟩
set_option maxHeartbeats 1600000 in
theorem cmpC_int (x y:Int) (w:World):Calls Tryz.prog 153 #[.int .i64 x,.int .i64 y] w fun e w' => e = .returned (.int .i64 (cmpC x y)) ∧ w' = w:=by
 have key:∀ z,cmpC x y = z → Calls Tryz.prog 153 #[.int .i64 x,.int .i64 y] w (fun e w' => e = .returned (.int .i64 z) ∧ w' = w) → Calls Tryz.prog 153 #[.int .i64 x,.int .i64 y] w (fun e w' => e = .returned (.int .i64 (cmpC x y)) ∧ w' = w):=fun z h k => by rw [h]; exact k
 by_cases h1:x < y
 ·refine key (-1) (by simp [cmpC,h1]) ?_
  clear key
  go_enter Tryz.func153,Tryz.ntmps153
  go_wp2_with fail
  refine (nanC_int x w).mono ?_
  rintro _ w1 ⟨rfl,rfl⟩
  go_wp2_with fail
  refine (nanC_int y w1).mono ?_
  rintro _ w2 ⟨rfl,rfl⟩
  go_wp2_with fail
  go_ret
  exact ⟨rfl,rfl⟩
 ·by_cases h2:y < x
  ·refine key 1 (by simp [cmpC,h1,h2]) ?_
   clear key
   go_enter Tryz.func153,Tryz.ntmps153
   go_wp2_with fail
   refine (nanC_int x w).mono ?_
   rintro _ w1 ⟨rfl,rfl⟩
   go_wp2_with fail
   refine (nanC_int y w1).mono ?_
   rintro _ w2 ⟨rfl,rfl⟩
   go_wp2_with fail
   go_ret
   exact ⟨rfl,rfl⟩
  ·refine key 0 (by simp [cmpC,h1,h2]) ?_
   clear key
   go_enter Tryz.func153,Tryz.ntmps153
   go_wp2_with fail
   refine (nanC_int x w).mono ?_
   rintro _ w1 ⟨rfl,rfl⟩
   go_wp2_with fail
   refine (nanC_int y w1).mono ?_
   rintro _ w2 ⟨rfl,rfl⟩
   go_wp2_with fail
   go_ret
   exact ⟨rfl,rfl⟩
set_option maxRecDepth 100000 in
set_option maxHeartbeats 4000000 in
theorem scmp_two (a1 a2:Option Addr) (c1 c2:Nat) (x1 y1 x2 y2:Int) (w:World) (h1:SlI w a1 2 c1 [x1,y1]) (h2:SlI w a2 2 c2 [x2,y2]) :
  Calls Tryz.prog 133 #[.slice a1 2 c1,.slice a2 2 c2] w fun e w' => ∃ z,e = .returned (.int .i64 z) ∧ (z < 0 ↔ ltP x1 y1 x2 y2) ∧ w' = w:=by
 obtain ⟨b1,o1,rfl,k1⟩:=h1.at (by omega)
 obtain ⟨b2,o2,rfl,k2⟩:=h2.at (by omega)
 have HK:=Hj (And.intro k1 k2)
 clear k1 k2 h1 h2
 go_enter Tryz.func133,Tryz.ntmps133
 go_wp2_with fail
 go_loopw [11,5,6,7,8] (fun iv _ _ _ _ wr => ∃ i:Nat,i ≤ 2 ∧ iv = .int .i64 (i:Int) ∧ (0 < i → x1 = x2) ∧ (1 < i → y1 = y2) ∧ wr = w) (fun iv _ _ _ _ _ => 2 - (intOf iv).toNat)
 case atStart => exact ⟨0,by omega,rfl,fun h => by omega,fun h => by omega,rfl⟩
 case round =>
  obtain ⟨i,hi,rfl,hE1,hE2,rfl⟩:=hrel
  by_cases hlt:i < 2
  ·have hlt':(i:Int) < 2:=by omega
   have hge':¬ (2:Int) ≤ (i:Int):=by omega
   have sx:=(Uh HK).1 i hlt
   have sy:=(Uh HK).2 i hlt
   obtain ⟨x,hx⟩:∃ x,[x1,y1].getD i 0 = x:=⟨_,rfl⟩
   obtain ⟨y,hy⟩:∃ y,[x2,y2].getD i 0 = y:=⟨_,rfl⟩
   rw [hx] at sx
   rw [hy] at sy
   have HXY:=Hj (show (i = 0 ∧ x = x1 ∧ y = x2) ∨ (i = 1 ∧ x = y1 ∧ y = y2) from by
    have:i = 0 ∨ i = 1:=by omega
    rcases this with rfl | rfl
    ·left; simpa using ⟨hx.symm,hy.symm⟩
    ·right; simpa using ⟨hx.symm,hy.symm⟩)
   have HE:=Hj (And.intro hE1 hE2)
   have KC:=Hj (cmpC_int x y wr)
   clear hx hy hE1 hE2
   go_wp2_with fail
   refine (Uh KC).mono ?_
   rintro _ w2 ⟨rfl,hw⟩
   rw [hw]
   clear hw w2 KC
   by_cases hxy:x = y
   ·have hz:cmpC x y = 0:=by unfold cmpC; split <;> (try split) <;> omega
    rw [hz]
    clear sx sy
    go_wp2_with fail
    refine ⟨⟨i + 1,by omega,by (first | rfl | go_num),fun _ => ?_,fun _ => ?_,(by first | rfl | trivial)⟩,by simp [intOf]; omega⟩
    ·rcases Uh HXY with ⟨h1,h2,h3⟩ | ⟨h1,h2,h3⟩
     ·omega
     ·exact (Uh HE).1 (by omega)
    ·rcases Uh HXY with ⟨h1,h2,h3⟩ | ⟨h1,h2,h3⟩ <;> omega
   ·obtain ⟨z,hz⟩:∃ z,cmpC x y = z:=⟨_,rfl⟩
    have hz0:z ≠ 0:=by rw [← hz]; unfold cmpC; split <;> (try split) <;> omega
    have HZ:=Hj (show z < 0 ↔ x < y by rw [← hz]; unfold cmpC; split <;> (try split) <;> omega)
    rw [hz]
    clear sx sy hz
    go_wp2_with fail
    go_ret
    refine ⟨z,rfl,(Uh HZ).trans ?_,rfl⟩
    unfold ltP
    rcases Uh HXY with ⟨h1,h2,h3⟩ | ⟨h1,h2,h3⟩
    ·omega
    ·have:=(Uh HE).1 (by omega)
     omega
  ·obtain rfl:i = 2:=by omega
   have e1:=hE1 (by omega)
   have e2:=hE2 (by omega)
   have hlt':¬ ((2:Nat):Int) < 2:=by omega
   have HE:=Hj (And.intro e1 e2)
   clear hE1 hE2 e1 e2
   go_wp2_with fail
   go_ret
   refine ⟨0,rfl,?_,rfl⟩
   unfold ltP
   have:=Uh HE
   omega
end Go.Proofs.YtgjokididdffhaaGreat
