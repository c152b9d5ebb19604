/- Sp5 -/
import Derived.Test.YtjdljjkmhdgghaaSp4
namespace Go.Proofs.Ytjdljjkmhdgghaa
open Go.RowKit Go.Deep
set_option linter.unusedVariables false
structure PlI (w1 W:World) (base:Nat) (v u:Value) (rs cs:List Int):Prop where
 own1:W.ownsRow base 3 1 v rs.length (valsI rs)
 own2:W.ownsRow base 3 1 u cs.length (valsI cs)
 apart:∀ g,v.ownBlock = some g → u.ownBlock ≠ some g
 bel:Below base w1 W
 le:base ≤ W.heap.size
theorem PlI.app {w1 W W3:World} {base:Nat} {v u:Value} {rs cs:List Int} {x:Int} {g cap:Nat} (h:PlI w1 W base v u rs cs) (o:Obj) (hown:W3.ownsRow base 3 1 (.slice (some ⟨g,0,none⟩) (rs.length + 1) cap) (rs.length + 1) (valsI rs ++ [.int .i64 x])) (hg:(W.alloc o).grownBy W3 v.ownBlock) (hat:v.ownBlock = some g ∨ g = W.heap.size + 1):PlI w1 W3 base (.slice (some ⟨g,0,none⟩) (rs.length + 1) cap) u (rs ++ [x]) cs:=by
 have hB:Below base W W3:=Below.grown ((Below.refl base W).alloc h.le o) hg (by simp; have:=h.le; omega) (fun j hj => (own_ge h.own1 j hj).1)
 refine ⟨by simpa [valsI] using hown,(h.own2.alloc o).kept hg ?_,?_,h.bel.trans hB,Nat.le_trans h.le hB.size⟩
 ·cases hu:u.ownBlock with
  | none => exact .inl rfl
  | some j =>
   right
   intro e
   exact h.apart j e.symm hu
 ·intro j hj hu
  have hj':g = j:=by simpa [Value.ownBlock] using hj
  subst hj'
  rcases hat with e | e
  ·exact h.apart _ e hu
  ·have:=(own_ge h.own2 _ hu).2
   omega
theorem own_slI {w:World} {base n:Nat} {v:Value} {xs:List Int} (h:w.ownsRow base 3 1 v n (valsI xs)):∃ a c,v = .slice a n c ∧ SlI w a n c xs:=by
 have hl:xs.length = n:=by have:=h.1; simpa [valsI] using this
 rcases h.2 with ⟨rfl,rfl⟩ | ⟨b,cap,cur,rfl,h4,h5,h6,h7,h8,h9⟩
 ·have:xs = []:=List.eq_nil_of_length_eq_zero hl
  subst this
  exact ⟨none,0,rfl,SlI.nil _⟩
 ·refine ⟨_,_,rfl,⟨hl,h6,h7,.inr ⟨b,0,rfl,fun i hi => ?_⟩⟩⟩
  rw [Nat.zero_add,cell_of_block h5]
  have:(cur.toList.take (n * 1))[i]? = (valsI xs)[i]?:=by rw [h9]
  rw [List.getElem?_take_of_lt (by omega)] at this
  rw [← Array.getElem?_toList,this]
  simp [valsI,List.getD,hi]
theorem take_snoc {cols:List Int} {i:Nat} {x:Int} (hi:i < cols.length) (hx:cols.getD i 0 = x):cols.take (i + 1) = cols.take i ++ [x]:=by
 rw [List.take_add_one]
 congr 1
 subst hx
 simp [hi,List.getD]
end Go.Proofs.Ytjdljjkmhdgghaa
