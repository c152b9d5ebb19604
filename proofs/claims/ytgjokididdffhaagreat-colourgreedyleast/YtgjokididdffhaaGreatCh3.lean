/- Cu1 -/
import Derived.Test.YtgjokididdffhaaGreatSa1
import Derived.Test.YtgjokididdffhaaGreatCg8
import Derived.Lib.MinMax
namespace Go.Proofs.YtgjokididdffhaaGreat
open Go.RowKit Go.Deep
set_option linter.unusedVariables false
structure UfI (D:Nat → Prop) (pf ro h:Nat → Nat) (M:Nat):Prop where
 lt:∀ e,D e → D (pf e)
 rl:∀ e,D e → D (ro e)
 fx:∀ e,D e → pf (ro e) = ro e
 st:∀ e,D e → ro (pf e) = ro e
 id:∀ e,D e → pf e = e → ro e = e
 hM:∀ e,D e → h e ≤ M
 up:∀ e,D e → pf e ≠ e → h e < h (pf e)
def upF (pf:Nat → Nat) (a b:Nat) (e:Nat):Nat:=if e = a then b else pf e
theorem upF_same (pf:Nat → Nat) (a b:Nat):upF pf a b a = b:=by simp [upF]
theorem upF_other (pf:Nat → Nat) {a b e:Nat} (h:e ≠ a):upF pf a b e = pf e:=by simp [upF,h]
section
variable {D:Nat → Prop} {pf ro h:Nat → Nat} {M:Nat}
theorem UfI.rr (u:UfI D pf ro h M) {e:Nat} (he:D e):ro (ro e) = ro e:=u.id _ (u.rl e he) (u.fx e he)
theorem UfI.halve (u:UfI D pf ro h M) {a:Nat} (ha:D a):UfI D (upF pf a (pf (pf a))) ro h M:=by
 have up2:pf a ≠ a → h a < h (pf (pf a)):=fun hn => by
  have h1:=u.up a ha hn
  by_cases c:pf (pf a) = pf a
  ·rw [c]; exact h1
  ·exact Nat.lt_trans h1 (u.up _ (u.lt a ha) c)
 refine ⟨fun e he => ?_,u.rl,fun e he => ?_,fun e he => ?_,fun e he hp => ?_,u.hM,fun e he hp => ?_⟩
 ·unfold upF
  split
  ·exact u.lt _ (u.lt a ha)
  ·exact u.lt e he
 ·by_cases c:ro e = a
  ·rw [c,upF_same]
   have:=u.fx e he
   rw [c] at this
   rw [this,this]
  ·rw [upF_other _ c]
   exact u.fx e he
 ·by_cases c:e = a
  ·rw [c,upF_same,u.st _ (u.lt a ha),u.st a ha]
  ·rw [upF_other _ c]
   exact u.st e he
 ·by_cases c:e = a
  ·rw [c] at hp ⊢
   rw [upF_same] at hp
   by_cases c2:pf a = a
   ·exact u.id a ha c2
   ·have:=up2 c2
    rw [hp] at this
    omega
  ·rw [upF_other _ c] at hp
   exact u.id e he hp
 ·by_cases c:e = a
  ·rw [c] at hp ⊢
   rw [upF_same] at hp ⊢
   refine up2 (fun c2 => hp ?_)
   rw [c2,c2]
  ·rw [upF_other _ c] at hp ⊢
   exact u.up e he hp
theorem UfI.join (u:UfI D pf ro h M) {a b:Nat} (ha:D a) (hb:D b) (pa:pf a = a) (pb:pf b = b):∃ h' M',UfI D (upF pf a b) (fun e => if ro e = a then b else ro e) h' M':=by
 have ra:=u.id a ha pa
 have rb:=u.id b hb pb
 by_cases hab:a = b
 ·subst hab
  refine ⟨h,M,⟨fun e he => ?_,fun e he => ?_,fun e he => ?_,fun e he => ?_,fun e he hp => ?_,u.hM,fun e he hp => ?_⟩⟩
  ·unfold upF; split
   ·exact ha
   ·exact u.lt e he
  ·split
   ·exact ha
   ·exact u.rl e he
  ·skip
   split
   ·rw [upF_same]
   ·rename_i c; rw [upF_other _ c]; exact u.fx e he
  ·have:ro (upF pf a a e) = ro e:=by
    by_cases c:e = a
    ·rw [c,upF_same]
    ·rw [upF_other _ c]; exact u.st e he
   simp only [this]
  ·have hp':pf e = e:=by
    by_cases c:e = a
    ·rw [c]; exact pa
    ·rw [upF_other _ c] at hp; exact hp
   simp only [u.id e he hp']
   split
   ·rename_i c; exact c.symm
   ·rfl
  ·by_cases c:e = a
   ·rw [c,upF_same] at hp; exact absurd rfl hp
   ·rw [upF_other _ c] at hp ⊢; exact u.up e he hp
 ·refine ⟨fun e => if ro e = a then h e else h e + (M + 1),M + (M + 1),⟨fun e he => ?_,fun e he => ?_,fun e he => ?_,fun e he => ?_,fun e he hp => ?_,fun e he => ?_,fun e he hp => ?_⟩⟩
  ·unfold upF; split
   ·exact hb
   ·exact u.lt e he
  ·split
   ·exact hb
   ·exact u.rl e he
  ·skip
   split
   ·rw [upF_other _ (fun x => hab x.symm)]; exact pb
   ·rename_i c; rw [upF_other _ c]; exact u.fx e he
  ·by_cases c:e = a
   ·subst c
    simp only [upF_same,ra,rb,if_true]
    rw [if_neg (fun x => hab x.symm)]
   ·rw [upF_other _ c]
    simp only [u.st e he]
  ·by_cases c:e = a
   ·rw [c,upF_same] at hp; exact absurd hp.symm hab
   ·rw [upF_other _ c] at hp
    simp only [u.id e he hp]
    rw [if_neg c]
  ·skip
   have:=u.hM e he
   split <;> omega
  ·by_cases c:e = a
   ·subst c
    rw [upF_same]
    simp only [ra,rb,if_true]
    rw [if_neg (fun x => hab x.symm)]
    have:=u.hM e he
    omega
   ·rw [upF_other _ c] at hp ⊢
    simp only [u.st e he]
    have:=u.up e he hp
    split <;> omega
theorem UfI.alone (hp:∀ e,D e → pf e = e):UfI D pf (fun e => e) (fun _ => 0) 0 :=
 ⟨fun e he => by rw [hp e he]; exact he,fun e he => he,fun e he => hp e he,fun e he => hp e he,fun e he h => rfl,fun e he => Nat.le_refl _,fun e he hn => absurd (hp e he) hn⟩
theorem UfI.congr {pf':Nat → Nat} (u:UfI D pf ro h M) (e:∀ x,D x → pf x = pf' x):UfI D pf' ro h M :=
 ⟨fun x hx => by rw [← e x hx]; exact u.lt x hx,u.rl,fun x hx => by rw [← e _ (u.rl x hx)]; exact u.fx x hx,fun x hx => by rw [← e x hx]; exact u.st x hx,fun x hx hp => u.id x hx (by rw [e x hx]; exact hp),u.hM,fun x hx hp => by rw [← e x hx] at hp ⊢; exact u.up x hx hp⟩
end
def CyP (ad:Nat → Nat → Prop) (T:Nat → Prop):Prop:=∀ v,T v → ∃ p q,p ≠ q ∧ T p ∧ T q ∧ ad p v ∧ ad q v
def FoP (ad:Nat → Nat → Prop) (T0:Nat → Prop):Prop:=∀ T:Nat → Prop,(∀ v,T v → T0 v) → CyP ad T → ∀ v,¬ T v
inductive WyP (ad:Nat → Nat → Prop) (T:Nat → Prop) (a:Nat):Nat → Prop
 | here (h:T a):WyP ad T a a
 | go (b c:Nat) (w:WyP ad T a b) (h:T c) (e:ad b c):WyP ad T a c
section
variable {ad:Nat → Nat → Prop} {T:Nat → Prop}
theorem FoP.sub {T':Nat → Prop} (h:FoP ad T) (k:∀ v,T' v → T v):FoP ad T':=fun S hS hc => h S (fun v hv => k v (hS v hv)) hc
theorem FoP.iff {T':Nat → Prop} (k:∀ v,T' v ↔ T v):FoP ad T' ↔ FoP ad T:=⟨fun h => h.sub (fun v => (k v).2),fun h => h.sub (fun v => (k v).1)⟩
theorem FoP.ad_congr {ad':Nat → Nat → Prop} (k:∀ u v,T u → T v → (ad u v ↔ ad' u v)) (h:FoP ad T):FoP ad' T:=fun S hS hc => h S hS (fun v hv => by
 obtain ⟨p,q,h1,h2,h3,h4,h5⟩:=hc v hv
 exact ⟨p,q,h1,h2,h3,(k p v (hS p h2) (hS v hv)).2 h4,(k q v (hS q h3) (hS v hv)).2 h5⟩)
theorem WyP.first {a b:Nat} (w:WyP ad T a b):T a:=by induction w with
 | here h => exact h
 | go b c w h e ih => exact ih
theorem WyP.last {a b:Nat} (w:WyP ad T a b):T b:=by cases w with
 | here h => exact h
 | go b c w h e => exact h
theorem WyP.more {T':Nat → Prop} (k:∀ v,T v → T' v) {a b:Nat} (w:WyP ad T a b):WyP ad T' a b:=by induction w with
 | here h => exact .here (k a h)
 | go b c w h e ih => exact .go b c ih (k c h) e
theorem WyP.trans {a b c:Nat} (w:WyP ad T a b) (w':WyP ad T b c):WyP ad T a c:=by induction w' with
 | here h => exact w
 | go c d w1 h e ih => exact .go c d ih h e
theorem WyP.turn (sy:∀ u v,ad u v → ad v u) {a b:Nat} (w:WyP ad T a b):WyP ad T b a:=by induction w with
 | here h => exact .here h
 | go b c w h e ih => exact (WyP.go c b (.here h) w.last (sy _ _ e)).trans ih
def LfP (ad:Nat → Nat → Prop) (T:Nat → Prop) (z:Nat):Prop:=∀ p q,T p → T q → ad p z → ad q z → p = q
theorem FoP.leaf (h:FoP ad T) {x:Nat} (hx:T x):∃ z,T z ∧ LfP ad T z:=by
 apply Classical.byContradiction
 intro hn
 refine h T (fun v hv => hv) (fun v hv => ?_) x hx
 apply Classical.byContradiction
 intro hm
 refine hn ⟨v,hv,fun p q hp hq hpv hqv => ?_⟩
 apply Classical.byContradiction
 intro hpq
 exact hm ⟨p,q,hpq,hp,hq,hpv,hqv⟩
theorem way_round (ir:∀ u,¬ ad u u) (sy:∀ u v,ad u v → ad v u) {S:Nat → Prop} (hS:∀ v,S v → T v) {x:Nat} (lf:LfP ad T x) {a b:Nat} (w:WyP ad S a b) (ha:a ≠ x):(b ≠ x → WyP ad (fun v => S v ∧ v ≠ x) a b) ∧ (b = x → ∃ y,S y ∧ ad y x ∧ WyP ad (fun v => S v ∧ v ≠ x) a y):=by
 induction w with
 | here h => exact ⟨fun hb => .here ⟨h,hb⟩,fun hb => absurd hb ha⟩
 | go b c w h e ih =>
  obtain ⟨i1,i2⟩:=ih
  refine ⟨fun hc => ?_,fun hc => ?_⟩
  ·by_cases hb:b = x
   ·obtain ⟨y,hy1,hy2,hy3⟩:=i2 hb
    have:y = c:=lf y c (hS y hy1) (hS c h) hy2 (by rw [← hb]; exact sy _ _ e)
    rw [← this]; exact hy3
   ·exact .go b c (i1 hb) ⟨h,hc⟩ e
  ·have hb:b ≠ x:=fun hb => ir x (by rw [hb,hc] at e; exact e)
   exact ⟨b,w.last,by rw [← hc]; exact e,i1 hb⟩
theorem forest_apart (ir:∀ u,¬ ad u u) (sy:∀ u v,ad u v → ad v u) {v:Nat}:∀ (n:Nat) (S:Nat → Prop),(∃ l:List Nat,l.length ≤ n ∧ ∀ x,S x → x ∈ l) → FoP ad S → S v → ∀ a b,ad a v → ad b v → WyP ad (fun u => S u ∧ u ≠ v) a b → a = b
 | 0,S,⟨l,hl,hm⟩,_,hv,a,b,_,_,_ => by
  have:=hm v hv
  have:l = []:=List.eq_nil_of_length_eq_zero (by omega)
  subst this
  simp_all
 | n + 1,S,⟨l,hl,hm⟩,hF,hv,a,b,hav,hbv,w => by
  apply Classical.byContradiction
  intro hab
  have ha:=w.first
  have hb:=w.last
  obtain ⟨x,hx,lf⟩:=hF.leaf hv
  have hxv:x ≠ v:=fun e => by subst e; exact hab (lf a b ha.1 hb.1 hav hbv)
  have alone:∀ c,S c → c ≠ v → ad c x → ad x v → False:=fun c h1 h2 h3 h4 => h2 (lf c v h1 hv h3 (sy _ _ h4))
  have key:x ≠ a ∧ x ≠ b:=by
   constructor
   ·intro e
    subst e
    have:=w.turn sy
    cases this with
    | here h => exact hab rfl
    | go y _ w' h e => exact alone y w'.last.1 w'.last.2 e hav
   ·intro e
    subst e
    cases w with
    | here h => exact hab rfl
    | go y _ w' h e => exact alone y w'.last.1 w'.last.2 e hbv
  have w2:=(way_round (T:=S) ir sy (S:=fun u => S u ∧ u ≠ v) (fun u h => h.1) lf w (fun e => key.1 e.symm)).1 (fun e => key.2 e.symm)
  refine hab (forest_apart ir sy n (fun u => S u ∧ u ≠ x) ⟨l.erase x,?_,fun u hu => ?_⟩ (hF.sub (fun u h => h.1)) ⟨hv,fun e => hxv e.symm⟩ a b hav hbv (w2.more (fun u h => ⟨⟨h.1.1,h.2⟩,h.1.2⟩)))
  ·rw [List.length_erase_of_mem (hm x hx)]
   omega
  ·exact (List.mem_erase_of_ne hu.2).2 (hm u hu.1)
theorem forest_leaf (ir:∀ u,¬ ad u u) (sy:∀ u v,ad u v → ad v u):∀ (n:Nat) (S:Nat → Prop),(∃ l:List Nat,l.length ≤ n ∧ ∀ x,S x → x ∈ l) → FoP ad S → ∀ x w,S x → S w → ad x w → ∃ y,y ≠ x ∧ WyP ad S x y ∧ LfP ad S y
 | 0,S,⟨l,hl,hm⟩,_,x,w,hx,_,_ => by
  have:=hm x hx
  have:l = []:=List.eq_nil_of_length_eq_zero (by omega)
  subst this
  simp_all
 | n + 1,S,⟨l,hl,hm⟩,hF,x,w,hx,hw,hxw => by
  obtain ⟨z,hz,lf⟩:=hF.leaf hx
  have less:∃ l':List Nat,l'.length ≤ n ∧ ∀ u,(S u ∧ u ≠ z) → u ∈ l':=⟨l.erase z,by rw [List.length_erase_of_mem (hm z hz)]; omega,fun u hu => (List.mem_erase_of_ne hu.2).2 (hm u hu.1)⟩
  have hF':FoP ad (fun u => S u ∧ u ≠ z):=hF.sub (fun u h => h.1)
  have hwx:w ≠ x:=fun e => ir x (by rw [e] at hxw; exact hxw)
  by_cases hzx:z = x
  ·subst hzx
   by_cases hq:∃ q,(S q ∧ q ≠ z) ∧ ad w q
   ·obtain ⟨q,hq1,hq2⟩:=hq
    obtain ⟨y,hy1,hy2,hy3⟩:=forest_leaf ir sy n _ less hF' w q ⟨hw,hwx⟩ hq1 hq2
    have hyz:=hy2.last.2
    have nz:¬ ad z y:=fun e => hy1 (lf y w hy2.last.1 hw (sy _ _ e) (sy _ _ hxw))
    refine ⟨y,hyz,(WyP.go z w (.here hz) hw hxw).trans (hy2.more (fun u h => h.1)),fun p q hp hq hpy hqy => ?_⟩
    exact hy3 p q ⟨hp,fun e => nz (by rw [← e]; exact hpy)⟩ ⟨hq,fun e => nz (by rw [← e]; exact hqy)⟩ hpy hqy
   ·refine ⟨w,hwx,.go z w (.here hz) hw hxw,fun p q hp hq' hpw hqw => ?_⟩
    have h1:p = z:=Classical.byContradiction (fun e => hq ⟨p,⟨hp,e⟩,sy _ _ hpw⟩)
    have h2:q = z:=Classical.byContradiction (fun e => hq ⟨q,⟨hq',e⟩,sy _ _ hqw⟩)
    rw [h1,h2]
  ·by_cases hwz:WyP ad S x z
   ·exact ⟨z,hzx,hwz,lf⟩
   ·have hwz':w ≠ z:=fun e => hwz (.go x z (.here hx) hz (by rw [← e]; exact hxw))
    obtain ⟨y,hy1,hy2,hy3⟩:=forest_leaf ir sy n _ less hF' x w ⟨hx,fun e => hzx e.symm⟩ ⟨hw,hwz'⟩ hxw
    have nz:¬ ad z y:=fun e => hwz (.go y z (hy2.more (fun u h => h.1)) hz (sy _ _ e))
    refine ⟨y,hy1,hy2.more (fun u h => h.1),fun p q hp hq hpy hqy => ?_⟩
    exact hy3 p q ⟨hp,fun e => nz (by rw [← e]; exact hpy)⟩ ⟨hq,fun e => nz (by rw [← e]; exact hqy)⟩ hpy hqy
theorem forest_add (ir:∀ u,¬ ad u u) (sy:∀ u v,ad u v → ad v u) {n:Nat} {v:Nat} (fin:∃ l:List Nat,∀ x,T x → x ∈ l) (hF:FoP ad T) (hv:¬ T v):FoP ad (fun u => T u ∨ u = v) ↔ ∀ a b,ad a v → ad b v → WyP ad T a b → a = b:=by
 obtain ⟨l,hm⟩:=fin
 constructor
 ·intro h a b hav hbv w
  refine forest_apart (v:=v) ir sy (v :: l).length (fun u => T u ∨ u = v) ⟨v :: l,Nat.le_refl _,fun x hx => ?_⟩ h (.inr rfl) a b hav hbv (w.more (fun u hu => ⟨.inl hu,fun e => hv (by rw [← e]; exact hu)⟩))
  rcases hx with hx | hx
  ·exact List.mem_cons_of_mem _ (hm x hx)
  ·rw [hx]; exact List.mem_cons_self
 ·intro h S hS hc x hx
  have hvS:S v:=Classical.byContradiction (fun hn => hF S (fun u hu => (hS u hu).elim id (fun e => absurd (by rw [← e]; exact hu) hn)) hc x hx)
  obtain ⟨a,b,hab,ha,hb,hav,hbv⟩:=hc v hvS
  have hF':FoP ad (fun u => S u ∧ u ≠ v):=hF.sub (fun u hu => (hS u hu.1).elim id (fun e => absurd e hu.2))
  have ne:∀ u,ad u v → u ≠ v:=fun u e he => ir v (by rw [he] at e; exact e)
  have toT:∀ u,(S u ∧ u ≠ v) → T u:=fun u hu => (hS u hu.1).elim id (fun e => absurd e hu.2)
  obtain ⟨p,q,hpq,hp,hq,hpa,hqa⟩:=hc a ha
  have nb:∃ c,(S c ∧ c ≠ v) ∧ ad a c:=by
   by_cases e:p = v
   ·exact ⟨q,⟨hq,fun e2 => hpq (by rw [e,e2])⟩,sy _ _ hqa⟩
   ·exact ⟨p,⟨hp,e⟩,sy _ _ hpa⟩
  obtain ⟨c,hc1,hc2⟩:=nb
  obtain ⟨y,hy1,hy2,hy3⟩:=forest_leaf ir sy l.length (fun u => S u ∧ u ≠ v) ⟨l,Nat.le_refl _,fun u hu => hm u (toT u hu)⟩ hF' a c ⟨ha,ne a hav⟩ hc1 hc2
  have hyv:ad y v:=by
   apply Classical.byContradiction
   intro hn
   obtain ⟨p,q,hpq,hp,hq,hpy,hqy⟩:=hc y hy2.last.1
   have e1:p ≠ v:=fun e => hn (sy _ _ (by rw [← e]; exact hpy))
   have e2:q ≠ v:=fun e => hn (sy _ _ (by rw [← e]; exact hqy))
   exact hpq (hy3 p q ⟨hp,e1⟩ ⟨hq,e2⟩ hpy hqy)
  exact hy1 (h a y hav hyv (hy2.more toT)).symm
end
def elN (v k:Nat):Nat:=v * 128 + k
def elD (n:Nat) (x:Nat):Prop:=x / 128 < n ∧ x % 128 < n
theorem elN_div {v k:Nat} (hk:k < 128):elN v k / 128 = v:=by unfold elN; omega
theorem elN_mod {v k:Nat} (hk:k < 128):elN v k % 128 = k:=by unfold elN; omega
theorem elN_D {n v k:Nat} (hn:n ≤ 128) (hv:v < n) (hk:k < n):elD n (elN v k):=by
 unfold elD
 rw [elN_div (by omega),elN_mod (by omega)]
 exact ⟨hv,hk⟩
theorem elN_of (x:Nat):elN (x / 128) (x % 128) = x:=by unfold elN; omega
def TwC (cs:Nat → Int) (R:Nat) (c d:Int) (w:Nat):Prop:=w < R ∧ (cs w = c ∨ cs w = d)
theorem TwC.swap {cs:Nat → Int} {R:Nat} {c d:Int} {w:Nat} (h:TwC cs R c d w):TwC cs R d c w:=⟨h.1,h.2.symm⟩
def LkP (ad:Nat → Nat → Prop) (cs:Nat → Int) (R:Nat) (x y:Nat):Prop :=
 x = y ∨ (WyP ad (TwC cs R (cs (x / 128)) ((x % 128:Nat):Int)) (x / 128) (y / 128) ∧ ((cs (y / 128) = cs (x / 128) ∧ y % 128 = x % 128) ∨ (cs (y / 128) = ((x % 128:Nat):Int) ∧ ((y % 128:Nat):Int) = cs (x / 128))))
section
variable {ad:Nat → Nat → Prop} {cs:Nat → Int} {R:Nat}
theorem LkP.turn (sy:∀ u v,ad u v → ad v u) {x y:Nat} (h:LkP ad cs R x y):LkP ad cs R y x:=by
 rcases h with h | ⟨w,h⟩
 ·exact .inl h.symm
 ·refine .inr ⟨?_,?_⟩
  ·rcases h with ⟨h1,h2⟩ | ⟨h1,h2⟩
   ·rw [h1,h2]; exact w.turn sy
   ·rw [h1,h2]; exact (w.turn sy).more (fun v hv => hv.swap)
  ·rcases h with ⟨h1,h2⟩ | ⟨h1,h2⟩
   ·exact .inl ⟨h1.symm,h2.symm⟩
   ·exact .inr ⟨h2.symm,h1.symm⟩
theorem LkP.trans {x y z : Nat} (h : LkP ad cs R x y) (k : LkP ad cs R y z) : LkP ad cs R x z := by
  rcases h with h | ⟨w, h⟩
  · rw [h]; exact k
  · rcases k with k | ⟨w2, k⟩
    · rw [← k]; exact .inr ⟨w, h⟩
    · refine .inr ⟨w.trans ?_, ?_⟩
      · rcases h with ⟨h1, h2⟩ | ⟨h1, h2⟩
        · rw [h1, h2] at w2; exact w2
        · rw [h1, h2] at w2; exact w2.more (fun v hv => hv.swap)
      · rcases h with ⟨h1, h2⟩ | ⟨h1, h2⟩
        · rcases k with ⟨k1, k2⟩ | ⟨k1, k2⟩
          · exact .inl ⟨k1.trans h1, k2.trans h2⟩
          · exact .inr ⟨by rw [k1, h2], by rw [k2, h1]⟩
        · rcases k with ⟨k1, k2⟩ | ⟨k1, k2⟩
          · exact .inr ⟨k1.trans h1, by rw [k2, h2]⟩
          · exact .inl ⟨by rw [k1, h2], by have : ((z % 128 : Nat) : Int) = ((x % 128 : Nat) : Int) := by rw [k2, h1]
                                           omega⟩
theorem LkP.edge {u v a b:Nat} (hu:u < R) (hv:v < R) (ea:cs v = (a:Int)) (eb:cs u = (b:Int)) (ha:a < 128) (hb:b < 128) (e:ad u v):LkP ad cs R (elN u a) (elN v b):=by
 refine .inr ⟨?_,.inr ?_⟩
 ·rw [elN_div ha,elN_mod ha,elN_div hb]
  exact .go u v (.here ⟨hu,.inl rfl⟩) ⟨hv,.inr ea⟩ e
 ·rw [elN_div ha,elN_mod ha,elN_div hb,elN_mod hb]
  exact ⟨ea,eb.symm⟩
structure UfE (ad:Nat → Nat → Prop) (cs:Nat → Int) (R:Nat) (ro:Nat → Nat) (ed:Nat → Nat → Prop):Prop where
 link:∀ x,elD R x → LkP ad cs R x (ro x)
 edge:∀ u v a b,ed u v → cs v = ((a:Nat):Int) → cs u = ((b:Nat):Int) → ro (elN u a) = ro (elN v b)
theorem UfE.none:UfE ad cs R (fun e => e) (fun _ _ => False):=⟨fun x _ => .inl rfl,fun u v a b h => h.elim⟩
theorem UfE.more {ro:Nat → Nat} {ed ed':Nat → Nat → Prop} (h:UfE ad cs R ro ed) (k:∀ u v a b,ed' u v → cs v = ((a:Nat):Int) → cs u = ((b:Nat):Int) → ed u v):UfE ad cs R ro ed':=⟨h.link,fun u v a b e h1 h2 => h.edge u v a b (k u v a b e h1 h2) h1 h2⟩
theorem UfE.step (sy:∀ u v,ad u v → ad v u) {ro:Nat → Nat} {ed:Nat → Nat → Prop} (h:UfE ad cs R ro ed) {u v a b:Nat} (hR:R ≤ 128) (hu:u < R) (hv:v < R) (ea:cs v = (a:Int)) (eb:cs u = (b:Int)) (ha:a < R) (hb:b < R) (e:ad u v) :
  UfE ad cs R (fun x => if ro x = ro (elN u a) then ro (elN v b) else ro x) (fun x y => ed x y ∨ (x = u ∧ y = v)):=by
 refine ⟨fun x hx => ?_,fun p q a' b' hpq h1 h2 => ?_⟩
 ·split
  ·rename_i c
   have k1:=h.link x hx
   rw [c] at k1
   have k2:=h.link (elN u a) (elN_D hR hu ha)
   have k3:=LkP.edge (R:=R) hu hv ea eb (by omega) (by omega) e
   have k4:=h.link (elN v b) (elN_D hR hv hb)
   exact ((k1.trans (k2.turn sy)).trans k3).trans k4
  ·exact h.link x hx
 ·rcases hpq with hpq | ⟨rfl,rfl⟩
  ·rw [h.edge p q a' b' hpq h1 h2]
  ·have e1:a' = a:=by omega
   have e2:b' = b:=by omega
   subst e1 e2
   simp only [if_true]
   split <;> rfl
theorem UfE.iff (sy:∀ u v,ad u v → ad v u) {ro:Nat → Nat} {ed:Nat → Nat → Prop} (h:UfE ad cs R ro ed) (hed:∀ u v,ad u v → 0 ≤ cs u → 0 ≤ cs v → ed u v ∨ ed v u) (hpr:∀ u v,ad u v → 0 ≤ cs u → cs u ≠ cs v) (hR:R ≤ 128) {u1 u2 k c:Nat} (h1:u1 < R) (h2:u2 < R) (e1:cs u1 = (c:Int)) (hc:c < R) (hk:k < R) (n1:c ≠ k) (n2:cs u2 ≠ (k:Int)) :
  ro (elN u1 k) = ro (elN u2 k) ↔ (cs u2 = (c:Int) ∧ WyP ad (TwC cs R (c:Int) (k:Int)) u1 u2):=by
 constructor
 ·intro e
  have k1:=h.link (elN u1 k) (elN_D hR h1 hk)
  rw [e] at k1
  have k2:=k1.trans ((h.link (elN u2 k) (elN_D hR h2 hk)).turn sy)
  rcases k2 with k2 | ⟨w,k2⟩
  ·have:u1 = u2:=by unfold elN at k2; omega
   subst this
   exact ⟨e1,.here ⟨h1,.inl e1⟩⟩
  ·rw [elN_div (by omega),elN_mod (by omega),elN_div (by omega)] at w k2
   rw [elN_mod (by omega)] at k2
   rw [e1] at w k2
   rcases k2 with ⟨k2,_⟩ | ⟨k2,_⟩
   ·exact ⟨k2,w⟩
   ·exact absurd k2 n2
 ·rintro ⟨e2,w⟩
  have key:∀ z,WyP ad (TwC cs R (c:Int) (k:Int)) u1 z → (cs z = (c:Int) → ro (elN u1 k) = ro (elN z k)) ∧ (cs z = (k:Int) → ro (elN u1 k) = ro (elN z c)):=by
   intro z w
   induction w with
   | here h => exact ⟨fun _ => rfl,fun e => by rw [e1] at e; omega⟩
   | go b d w hd e ih =>
    have hb:=w.last
    have hbd:=hpr b d e (by rcases hb.2 with x | x <;> omega)
    have hedge:∀ a' b':Nat,cs d = (a':Int) → cs b = (b':Int) → ro (elN b a') = ro (elN d b'):=fun a' b' x y => by
     rcases hed b d e (by omega) (by omega) with q | q
     ·exact h.edge b d a' b' q x y
     ·exact (h.edge d b b' a' q y x).symm
    refine ⟨fun x => ?_,fun x => ?_⟩
    ·have hb':cs b = (k:Int):=hb.2.elim (fun y => absurd (y.trans x.symm) hbd) id
     rw [ih.2 hb',hedge c k x hb']
    ·have hb':cs b = (c:Int):=hb.2.elim id (fun y => absurd (y.trans x.symm) hbd)
     rw [ih.1 hb',hedge k c x hb']
  exact (key u2 w).1 e2
end
structure MaxTo (xs:List Int) (k:Nat) (v:Int):Prop where
 at_:∃ i,i < k ∧ xs.getD i 0 = v
 le:∀ i,i < k → xs.getD i 0 ≤ v
theorem MaxTo.next {xs:List Int} {k:Nat} {v x:Int} (h:MaxTo xs k v) (hx:xs.getD k 0 = x):MaxTo xs (k + 1) (max v x):=by
 obtain ⟨i,hi,he⟩:=h.at_
 refine ⟨?_,fun j hj => ?_⟩
 ·by_cases c:v ≤ x
  ·exact ⟨k,by omega,by rw [hx]; omega⟩
  ·exact ⟨i,by omega,by rw [he]; omega⟩
 ·by_cases e:j = k
  ·subst e; rw [hx]; omega
  ·have:=h.le j (by omega); omega
theorem MaxTo.one {xs:List Int} {k:Nat} {v u:Int} (h:MaxTo xs k v) (g:MaxTo xs k u):v = u:=by
 obtain ⟨i,hi,he⟩:=h.at_
 obtain ⟨j,hj,hf⟩:=g.at_
 have:=h.le j hj
 have:=g.le i hi
 omega
set_option maxRecDepth 20000 in
set_option maxHeartbeats 8000000 in
theorem smax_any (a:Option Addr) (n c:Nat) (xs:List Int) (w:World) (h:SlI w a n c xs) (hn:n ≤ 1000000) (h0:0 < n) :
  Calls Tryz.prog 72 #[.slice a n c] w fun e w' => ∃ v:Int,e = .returned (.int .i64 v) ∧ MaxTo xs n v ∧ Below w.heap.size w w':=by
 have HS:=Hj h
 obtain ⟨b,off,rfl,hc⟩:=h.at (by omega)
 have s0:=hc 0 h0
 rw [Nat.add_zero] at s0
 obtain ⟨x,hx⟩:∃ x,xs.getD 0 0 = x:=⟨_,rfl⟩
 rw [hx] at s0
 have HX:=Hj hx
 have hn1:¬ (n:Int) < 1:=by omega
 have hn2:(0:Int) < (n:Int):=by omega
 clear h hc hx
 go_enter Tryz.func72,Tryz.ntmps72
 go_wp2_with fail
 go_loopw [3,4] (fun mv iv wr => ∃ (u:Int) (k:Nat),1 ≤ k ∧ k ≤ n ∧ mv = .int .i64 u ∧ iv = .int .i64 (k:Int) ∧ Hid (MaxTo xs k u) ∧ Hid (Below w.heap.size w wr)) (fun _ iv _ => n - (intOf iv).toNat)
 case atStart => exact ⟨x,1,Nat.le_refl _,by omega,rfl,rfl,Hj ⟨⟨0,by omega,Uh HX⟩,fun i hi => by rw [show i = 0 by omega,Uh HX]; exact Int.le_refl _⟩,Hj (Below.refl _ _)⟩
 case round =>
  obtain ⟨u,k,hk1,hk,rfl,rfl,HM,HW⟩:=hrel
  clear s0
  by_cases hlt:k < n
  ·have hlt':(k:Int) < (n:Int):=by omega
   obtain ⟨b',off',e1,hc⟩:=((Uh HS).below (Uh HW)).at (by omega)
   cases e1
   have sk:=hc k hlt
   obtain ⟨y,hy⟩:∃ y,xs.getD k 0 = y:=⟨_,rfl⟩
   rw [hy] at sk
   have HN:=Hj ((Uh HM).next hy)
   obtain ⟨z,hz⟩:∃ z,max u y = z:=⟨_,rfl⟩
   rw [hz] at HN
   clear hc hy
   go_wp2_with fail
   exact ⟨⟨z,k + 1,by omega,by omega,by (first | rfl | simp [hz]),by (first | rfl | go_num),HN,HW⟩,by simp [intOf]; omega⟩
  ·obtain rfl:k = n:=by omega
   have hlt':¬ (k:Int) < (k:Int):=by omega
   go_wp2_with fail
   try go_ret
   exact ⟨u,rfl,Uh HM,Uh HW⟩
theorem wrap_i64n (x:Int):IntKind.i64.wrap x = (x + 9223372036854775808) % 18446744073709551616 - 9223372036854775808:=by
 simp [IntKind.wrap,IntKind.bits,IntKind.signed]
 split <;> omega
def NumC (cs:List Int) (z:Int):Prop:=MaxTo (-1 :: cs) (cs.length + 1) (z - 1)
set_option maxRecDepth 20000 in
set_option maxHeartbeats 8000000 in
theorem cnumber_any (a:Option Addr) (n c:Nat) (cs:List Int) (w:World) (h:SlI w a n c cs) (hn:n ≤ 128) (hr:∀ i,i < n → cs.getD i 0 ≤ 65536) (hnil:a = none → c = 0) :
  Calls Tryz.prog 42 #[.slice a n c] w fun e w' => ∃ z:Int,e = .returned (.int .i64 z) ∧ NumC cs z ∧ Below w.heap.size w w':=by
 have HS:=Hj h
 obtain ⟨i64,hi,hz,hs,hb⟩:=info_parts Tryz.info_i64
 have HI:=Hj (And.intro hi (And.intro hz (And.intro hs hb)))
 have hlc:=h.len
 have HV:=Hj (show ∀ v,MaxTo (-1 :: cs) (cs.length + 1) v → -1 ≤ v ∧ v ≤ 65536 from fun v hv => by
  refine ⟨by have:=hv.le 0 (by omega); simpa using this,?_⟩
  obtain ⟨i,hi,he⟩:=hv.at_
  cases i with
  | zero => simp at he; omega
  | succ i =>
   rw [List.getD_cons_succ] at he
   have:=hr i (by omega)
   omega)
 obtain ⟨wa,hwa⟩:∃ x,w.alloc (.cells #[.int .i64 (-1)] 3) = x:=⟨_,rfl⟩
 have ba:Below w.heap.size w wa:=by rw [← hwa]; exact bAl
 have hblk:wa.heap[w.heap.size]? = some (.cells #[.int .i64 (-1)] 3 (0,0)):=by rw [← hwa]; exact alloc_block _ _
 have HOW:=Hj (show wa.ownsRow w.heap.size 3 1 (.slice (some ⟨w.heap.size,0,none⟩) 1 1) 1 [.int .i64 (-1)] from ⟨rfl,.inr ⟨w.heap.size,1,#[.int .i64 (-1)],rfl,Nat.le_refl _,hblk,Nat.le_refl _,by decide,rfl,rfl⟩⟩)
 have HBA:=Hj ba
 have HLC:=Hj hlc
 by_cases hn0:n = 0
 ·subst hn0
  have hcs:cs = []:=List.eq_nil_of_length_eq_zero hlc
  have KM:=Hj (smax_any (some ⟨w.heap.size,0,none⟩) 1 1 [-1] wa ((own_slI (xs:=[-1]) (Uh HOW)).elim (fun a h => h.elim (fun c h => by have e:=h.1; injection e with e1 e2 e3; subst e1 e3; exact h.2))) (by omega) (by omega))
  clear h hr hi hz hs hb hblk ba hlc
  have HNN:=Hj (show a = none → 0 = 0 ∧ c = 0 from fun e => ⟨rfl,hnil e⟩)
  have HCC:=Hj (show ∀ ad,a = some ad → ∀ j u,([]:List Value)[j]? = some u → wa.cell? (ad.add j) = some u from fun ad _ j u hj => by simp at hj)
  have HO1:=Hj (show ∀ u ∈ ([]:List Value),u.oneCell' = true from fun u hu => by cases hu)
  subst hcs
  clear hnil KM
  go_enter Tryz.func42,Tryz.ntmps42
  go_wp2_with (at_builtin; refine wpList_append_fits_any _ rfl _ _ 23 rfl w.heap.size 3 i64 1 Tryz.underlying23 (Uh HI).1 (Uh HI).2.2.1 w.heap.size 1 1 [.int .i64 (-1)] rfl (Uh HOW) a 0 c [] rfl rfl (Uh HNN) (Uh HCC) (Uh HO1) (by decide) ?_)
  intro w3 hown hg
  have hb3:Below w.heap.size w w3:=(Uh HBA).grown hg (Uh HBA).size (fun j hj => by injection hj with hj; omega)
  obtain ⟨a4,c4,e4,s4⟩:=own_slI (xs:=[-1]) (show w3.ownsRow w.heap.size 3 1 (.slice (some ⟨w.heap.size,0,none⟩) 1 1) 1 (valsI [-1]) from by simpa [valsI] using hown)
  injection e4 with e5 e6 e7
  subst e5 e7
  have KM:=Hj (smax_any (some ⟨w.heap.size,0,none⟩) 1 1 [-1] w3 s4 (by omega) (by omega))
  have HB3:=Hj hb3
  clear hown hg hb3 e6 s4
  go_wp2_with fail
  refine (Uh KM).mono ?_
  rintro _ w4 ⟨v,rfl,hv,b4⟩
  have hrg:=Uh HV v hv
  have HV2:=Hj hv
  have HB4:=Hj ((Uh HB3).trans (b4.mono (Uh HB3).size))
  have hw7:IntKind.i64.wrap (1 + v) = 1 + v:=by rw [wrap_i64n]; omega
  clear KM hv b4 hrg
  go_wp2_with fail
  try go_ret
  exact ⟨1 + v,rfl,(show MaxTo _ _ (1 + v - 1) from by rw [show 1 + v - 1 = v by omega]; exact Uh HV2),Uh HB4⟩
 ·obtain ⟨b,off,rfl,hc⟩:=(h.below ba).at (by omega)
  have hnews:∀ j u,(valsI cs)[j]? = some u → wa.cell? ((⟨b,off,none⟩:Addr).add j) = some u:=fun j u hj => by
   obtain ⟨h3,h4⟩:=List.getElem?_eq_some_iff.1 hj
   simp [valsI] at h3 h4
   have e0:(⟨b,off,none⟩:Addr).add j = ⟨b,off + j,none⟩:=by unfold Addr.add; split <;> simp_all
   rw [e0,hc j (by omega),← h4]
   simp [List.getD,h3]
  have HNW:=Hj hnews
  have HON:=Hj (show ∀ u ∈ valsI cs,u.oneCell' = true from fun u hu => by simp [valsI] at hu; obtain ⟨x,_,rfl⟩:=hu; rfl)
  have HVL:=Hj (show (valsI cs).length = n * 1 by simp [valsI]; omega)
  have hmx:1 + n ≤ maxLen:=by unfold maxLen; omega
  have hby:(1 + n) * 8 ≤ 140737488355328:=by omega
  have hpn:0 < n:=by omega
  have hle:=ba.size
  clear h hr hi hz hs hb hblk ba hlc hc hnews hn0
  go_enter Tryz.func42,Tryz.ntmps42
  go_wp2_with (at_builtin; refine wpList_append_lies _ rfl _ _ 23 rfl w.heap.size 3 i64 (.int .i64 0) 1 8 Tryz.underlying23 (Uh HI).1 (Uh HI).2.1 (Uh HI).2.2.1 (Uh HI).2.2.2 rfl (by decide) (.slice (some ⟨w.heap.size,0,none⟩) 1 1) 1 [.int .i64 (-1)] rfl (Uh HOW) ⟨b,off,none⟩ n c (valsI cs) rfl (Uh HVL) (Uh HNW) (Uh HON) hpn hmx hby hle wa.heap.size rfl ?_)
  intro g cap w3 hown hg hat hlt
  have hb3:Below w.heap.size w w3:=(Uh HBA).grown hg (Uh HBA).size (fun j hj => by simp [Value.ownBlock] at hj; omega)
  obtain ⟨a4,c4,e4,s4⟩:=own_slI (xs:=-1 :: cs) (show w3.ownsRow w.heap.size 3 1 (.slice (some ⟨g,0,none⟩) (1 + n) cap) (1 + n) (valsI (-1 :: cs)) from by simpa [valsI] using hown)
  injection e4 with e5 e6 e7
  subst e5 e7
  have KM:=Hj (smax_any (some ⟨g,0,none⟩) (1 + n) cap (-1 :: cs) w3 s4 (by omega) (by omega))
  have HB3:=Hj hb3
  clear hown hg hat hlt hb3 e6 s4
  go_wp2_with fail
  refine (Uh KM).mono ?_
  rintro _ w4 ⟨v,rfl,hv,b4⟩
  have hv2:MaxTo (-1 :: cs) (cs.length + 1) v:=by rw [Uh HLC,Nat.add_comm]; exact hv
  have hrg:=Uh HV v hv2
  have HV2:=Hj hv2
  have HB4:=Hj ((Uh HB3).trans (b4.mono (Uh HB3).size))
  have hw7:IntKind.i64.wrap (1 + v) = 1 + v:=by rw [wrap_i64n]; omega
  clear KM hv b4 hv2 hrg
  go_wp2_with fail
  try go_ret
  exact ⟨1 + v,rfl,(show MaxTo _ _ (1 + v - 1) from by rw [show 1 + v - 1 = v by omega]; exact Uh HV2),Uh HB4⟩
end Go.Proofs.YtgjokididdffhaaGreat
