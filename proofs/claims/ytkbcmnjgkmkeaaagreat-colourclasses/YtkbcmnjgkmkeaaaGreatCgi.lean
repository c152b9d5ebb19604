/- Cgf -/
import Derived.Test.YtkbcmnjgkmkeaaaGreatCge
import Derived.Test.YtkbcmnjgkmkeaaaGreatRq0
namespace Go.Proofs.YtkbcmnjgkmkeaaaGreat
open Go.RowKit Go.Deep
set_option linter.unusedVariables false

def GdP (st cols:List Int) (R u v:Nat):Prop:=∀ a b,a < R → b < R → (a < u ∨ a = u ∧ b < v) → (InC st cols b a ↔ InC st cols a b) ∧ ¬ (a = b ∧ InC st cols b a)
theorem GdP.first (st cols:List Int) (R:Nat):GdP st cols R 0 0:=fun a b _ _ h => by omega
theorem GdP.next {st cols:List Int} {R u v:Nat} (h:GdP st cols R u v) (h1:InC st cols v u ↔ InC st cols u v) (h2:¬ (u = v ∧ InC st cols v u)):GdP st cols R u (v + 1):=fun a b ha hb hc => by
 by_cases e:a = u ∧ b = v
 ·obtain ⟨rfl,rfl⟩:=e
  exact ⟨h1,h2⟩
 ·exact h a b ha hb (by omega)
theorem GdP.last {st cols:List Int} {R:Nat} (h:GdP st cols R R 0):GraP st cols R R:=by
 refine ⟨rfl,fun u v hu hv hi => ((h v u hv hu (.inl hv)).1).1 hi,?_⟩
 rintro ⟨r,hr,hi⟩
 exact (h r r hr hr (.inl hr)).2 ⟨rfl,hi⟩
theorem GraP.no {st cols:List Int} {R u v:Nat} (hu:u < R) (hv:v < R) (h:¬ (InC st cols v u ↔ InC st cols u v) ∨ (u = v ∧ InC st cols v u)):¬ GraP st cols R R:=by
 rintro ⟨_,h1,h2⟩
 rcases h with h | ⟨h,hi⟩
 ·exact h ⟨fun hi => h1 v u hv hu hi,fun hi => h1 u v hu hv hi⟩
 ·subst h
  exact h2 ⟨u,hu,hi⟩
def OpQ (R:Nat) (st cols:List Int) (u v x:Nat):Prop:=x < u * R + v ∧ Vis R R st cols cols.length x
theorem OpQ.next {R:Nat} {st cols:List Int} {u v x:Nat}:OpQ R st cols u (v + 1) x ↔ (x = u * R + v ∧ Vis R R st cols cols.length x) ∨ (x ≠ u * R + v ∧ OpQ R st cols u v x):=by
 unfold OpQ
 constructor
 ·rintro ⟨h1,h2⟩
  by_cases e:x = u * R + v
  ·exact .inl ⟨e,h2⟩
  ·exact .inr ⟨e,by omega,h2⟩
 ·rintro (⟨h1,h2⟩ | ⟨_,h1,h2⟩)
  ·exact ⟨by omega,h2⟩
  ·exact ⟨by omega,h2⟩
theorem OpI.set {w2 W:World} {b m:Nat} {P Q:Nat → Prop} {t:Bool} (h:OpI w2 W b m P) (x:Nat) (hx:x < m) (hxx:TruQ t (Q x)) (e:∀ y,y ≠ x → (Q y ↔ P y)):OpI w2 (W.setCell ⟨b,x,none⟩ (.bool t)) b m Q:=by
 refine ⟨(h.row.put x (.bool t) hx).congr (fun i hi => ?_),h.chg.trans (Chg.of_set _ _ _ _ rfl)⟩
 by_cases c:i = x
 ·simp only [c,if_true]
  cases t
  ·rw [tb_no (fun q => absurd (Iff.mpr hxx q) (by decide))]
  ·rw [tb_yes (Iff.mp hxx rfl)]
 ·simp only [c,if_false]
  rw [tb_congr (e i c)]

def NeP (st cols:List Int) (R u v:Nat):Prop:=u ≠ v ∧ (InC st cols v u ∨ ∃ j,j < R ∧ InC st cols j u ∧ InC st cols v j)
def NeQ (st cols:List Int) (R u v x:Nat):Prop:=∃ a b,a < R ∧ b < R ∧ x = a * R + b ∧ (a < u ∨ a = u ∧ b < v) ∧ NeP st cols R a b
theorem NeQ.first (st cols:List Int) (R x:Nat):¬ NeQ st cols R 0 0 x:=by
 rintro ⟨a,b,_,_,_,h,_⟩
 omega
theorem NeQ.at {st cols:List Int} {R u v:Nat} (hu:u < R) (hv:v < R):NeQ st cols R u (v + 1) (u * R + v) ↔ NeP st cols R u v:=by
 constructor
 ·rintro ⟨a,b,h1,h2,h3,h4,h5⟩
  obtain ⟨rfl,rfl⟩:=idx_one hv h2 h3
  exact h5
 ·intro h
  exact ⟨u,v,hu,hv,rfl,.inr ⟨rfl,by omega⟩,h⟩
theorem NeQ.other {st cols:List Int} {R u v x:Nat} (hx:x ≠ u * R + v):NeQ st cols R u (v + 1) x ↔ NeQ st cols R u v x:=by
 constructor
 ·rintro ⟨a,b,h1,h2,h3,h4,h5⟩
  refine ⟨a,b,h1,h2,h3,?_,h5⟩
  by_cases e:a = u ∧ b = v
  ·obtain ⟨rfl,rfl⟩:=e
   exact absurd h3 hx
  ·omega
 ·rintro ⟨a,b,h1,h2,h3,h4,h5⟩
  exact ⟨a,b,h1,h2,h3,by omega,h5⟩
theorem NeQ.last {st cols:List Int} {R u v:Nat} (hu:u < R) (hv:v < R):NeQ st cols R R 0 (u * R + v) ↔ NeP st cols R u v:=by
 constructor
 ·rintro ⟨a,b,h1,h2,h3,h4,h5⟩
  obtain ⟨rfl,rfl⟩:=idx_one hv h2 h3
  exact h5
 ·intro h
  exact ⟨u,v,hu,hv,rfl,.inl hu,h⟩
theorem NrP.ne {st cols:List Int} {R:Nat} (hm:MayP (R:Int) (R:Int) st cols) (hg:GraP st cols R R) {u v:Nat} (hu:u < R) (hv:v < R):(NrP st cols R (u * 128 + v) ∧ u ≠ v) ↔ NeP st cols R u v:=by
 have hf:=hm.head.fit
 have sym:∀ a b,a < R → b < R → (InC st cols a b ↔ InC st cols b a):=fun a b ha hb => ⟨hg.2.1 a b ha hb,hg.2.1 b a hb ha⟩
 unfold NeP
 constructor
 ·rintro ⟨⟨i,hi,h⟩,hne⟩
  refine ⟨hne,?_⟩
  rcases h with h | ⟨t,ht,h⟩
  ·rw [MeP.mem (rowL_rng hm hi) (by omega),rowL_mem hm hi,rowL_mem hm hi] at h
   exact .inr ⟨i,hi,(sym u i hu hi).1 h.1,h.2⟩
  ·have hr:=rowL_rng hm hi t ht
   have e1:i = u:=by omega
   subst e1
   left
   refine (rowL_mem hm hi).1 (mem_getD.2 ⟨t,ht,by omega⟩)
 ·rintro ⟨hne,h⟩
  refine ⟨?_,hne⟩
  rcases h with h | ⟨j,hj,h1,h2⟩
  ·obtain ⟨t,ht,e⟩:=mem_getD.1 ((rowL_mem hm hu).2 h)
   exact ⟨u,hu,.inr ⟨t,ht,by rw [e]; simp⟩⟩
  ·refine ⟨j,hj,.inl ?_⟩
   rw [MeP.mem (rowL_rng hm hj) (by omega),rowL_mem hm hj,rowL_mem hm hj]
   exact ⟨(sym j u hj hu).1 h1,h2⟩
end Go.Proofs.YtkbcmnjgkmkeaaaGreat
