/- Sj0 -/
import Derived.Test.YtjdljjkmhdgghaaSa3
namespace Go.Proofs.Ytjdljjkmhdgghaa
open Go.RowKit Go.Deep
set_option linter.unusedVariables false
theorem SlI.front {w:World} {a:Option Addr} {c:Nat} {xs ys:List Int} (h:SlI w a (xs.length + 3) c (xs ++ ys)) {n:Nat} {x:List Int} (hx:xs = x) (hn:x.length = n):SlI w a n c x:=by
 subst hx
 refine ⟨hn,by have:=h.le; omega,h.cap,?_⟩
 rcases h.cells with e | ⟨b,off,e,k⟩
 ·left
  exact (List.append_eq_nil_iff.1 e).1
 ·right
  refine ⟨b,off,e,fun i hi => ?_⟩
  have:=k i (by simp; omega)
  rw [this]
  congr 2
  simp [List.getD,List.getElem?_append_left hi]
def TruQ (b:Bool) (P:Prop):Prop:=b = true ↔ P
theorem BIs.known {P:Prop} {w w':World} {e:Ending} {b:Bool} (hb:TruQ b P) (h:BIs P w w' e):e = .returned (.bool b) ∧ Below w.heap.size w w':=by
 obtain ⟨⟨b',rfl,hb'⟩,k⟩:=h
 have:b' = b:=by
  have:=hb'.trans (Iff.symm hb)
  cases b <;> cases b' <;> simp_all
 rw [this]
 exact ⟨rfl,k⟩
theorem GivI.sli {w:World} {B:Nat} {v0 v1:Value} {is:List EntI} {rs:Nat → Value} (h:GivI w B v0 v1 is rs) {E:EntI} (hE:E ∈ is) {x:List Int} {n:Nat} (hx:E.xs = x) (hn:x.length = n):SlI w (some ⟨E.b,0,none⟩) n E.c x:=(h.ents E hE).sl.front hx hn
end Go.Proofs.Ytjdljjkmhdgghaa
