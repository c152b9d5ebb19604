/- Sp4 -/
import Derived.Test.YtkbcmnjgkmkeaaaGreatSp3
namespace Go.Proofs.YtkbcmnjgkmkeaaaGreat
open Go.RowKit Go.Deep
set_option linter.unusedVariables false
def Vis (R width:Nat) (st cols:List Int) (i x:Nat):Prop:=∃ r j:Nat,r < R ∧ st.getD r 0 ≤ (j:Int) ∧ (j:Int) < st.getD (r + 1) 0 ∧ j < i ∧ (r:Int) * (width:Int) + cols.getD j 0 = (x:Int)
theorem Vis.zero {R width:Nat} {st cols:List Int} {x:Nat}:¬ Vis R width st cols 0 x:=fun ⟨_,_,_,_,_,h,_⟩ => absurd h (Nat.not_lt_zero _)
theorem Vis.has {R width:Nat} {st cols:List Int} (hm:MayP (R:Int) (width:Int) st cols) {r c:Nat} (hr:r < R) (hc:c < width):Vis R width st cols cols.length (r * width + c) ↔ HasP (R:Int) (width:Int) st cols (r:Int) (c:Int):=by
 have e0:((r:Int)).toNat = r:=by omega
 have hl:=hm.head.len
 constructor
 ·rintro ⟨q,j,hq,a1,a2,a3,a4⟩
  obtain ⟨X,Y,hR⟩:=hm.rowAt (k:=q) (by omega)
  rw [hR.hX] at a1
  rw [hR.hY] at a2
  have hg:=hR.row.rng j (by omega) (by omega)
  obtain ⟨d,hd⟩:∃ d:Nat,cols.getD j 0 = (d:Int):=⟨(cols.getD j 0).toNat,by omega⟩
  rw [hd] at a4 hg
  have a5:q * width + d = r * width + c:=by
   have e1:((q * width:Nat):Int) = (q:Int) * (width:Int):=by simp
   have e2:((r * width + c:Nat):Int) = ((r * width:Nat):Int) + (c:Int):=by simp
   omega
  have a6:q = r:=by
   have h1:(q * width + d) / width = q:=by rw [Nat.mul_comm,Nat.mul_add_div (by omega)]; rw [Nat.div_eq_of_lt (by omega)]; rfl
   have h2:(r * width + c) / width = r:=by rw [Nat.mul_comm,Nat.mul_add_div (by omega)]; rw [Nat.div_eq_of_lt (by omega)]; rfl
   rw [← h1,← h2,a5]
  subst a6
  exact ⟨hm,by omega,by omega,j,by rw [e0,hR.hX]; omega,by rw [e0,hR.hY]; omega,by rw [hd]; omega⟩
 ·rintro ⟨_,_,_,j,a1,a2,a3⟩
  rw [e0] at a1 a2
  obtain ⟨X,Y,hR⟩:=hm.rowAt (k:=r) (by omega)
  rw [hR.hX] at a1
  rw [hR.hY] at a2
  refine ⟨r,j,hr,by rw [hR.hX]; omega,by rw [hR.hY]; omega,by have:=hR.lt; omega,?_⟩
  rw [a3]
  simp
structure OpI (w2 W:World) (b:Nat) (m:Nat) (P:Nat → Prop):Prop where
 row:RoV W b m (fun x => .bool (tb (P x)))
 chg:Chg (fun j => j = b) w2 W
theorem OpI.put {w2 W:World} {b m:Nat} {P Q:Nat → Prop} (h:OpI w2 W b m P) (x:Nat) (hx:x < m) (e:∀ y,Q y ↔ (P y ∨ y = x)):OpI w2 (W.setCell ⟨b,x,none⟩ (.bool true)) b m Q:=by
 refine ⟨(h.row.put x (.bool true) hx).congr (fun i hi => ?_),h.chg.trans (Chg.of_set _ _ _ _ rfl)⟩
 by_cases c:i = x
 ·simp only [c,if_true]
  rw [tb_yes ((e x).2 (.inr rfl))]
 ·simp only [c,if_false]
  rw [tb_congr (show P i ↔ Q i from ⟨fun p => (e i).2 (.inl p),fun q => ((e i).1 q).resolve_right c⟩)]
theorem OpI.drew {w2 W:World} {b m:Nat} {P:Nat → Prop} (h:OpI w2 W b m P):OpI w2 W.drew b m P:=⟨h.row.chg (S:=fun _ => False) (Chg.of_drew _) (fun x => x),h.chg.trans (Chg.of_drew _)⟩
structure PlI (w1 W:World) (base:Nat) (v u:Value) (rs cs:List Int):Prop where
 own1:W.ownsRow base 3 1 v rs.length (valsI rs)
 own2:W.ownsRow base 3 1 u cs.length (valsI cs)
 apart:∀ g,v.ownBlock = some g → u.ownBlock ≠ some g
 bel:Below base w1 W
 le:base ≤ W.heap.size
theorem PlI.app {w1 W W3:World} {base:Nat} {v u:Value} {rs cs:List Int} {x:Int} {g cap:Nat} (h:PlI w1 W base v u rs cs) (o:Obj) (hown:W3.ownsRow base 3 1 (.slice (some ⟨g,0,none⟩) (rs.length + 1) cap) (rs.length + 1) (valsI rs ++ [.int .i64 x])) (hg:(W.alloc o).grownBy W3 v.ownBlock) (hat:v.ownBlock = some g ∨ g = W.heap.size + 1):PlI w1 W3 base (.slice (some ⟨g,0,none⟩) (rs.length + 1) cap) u (rs ++ [x]) cs:=by
 have hB:Below base W W3:=Below.grown ((Below.refl base W).alloc h.le o) hg (by simp; have:=h.le; omega) (fun j hj => (own_ge h.own1 j hj).1)
 refine ⟨by simpa [valsI] using hown,(h.own2.alloc o).kept hg ?_,?_,h.bel.trans hB,Nat.le_trans h.le hB.size⟩
 ·cases hu:u.ownBlock with
  | none => exact .inl rfl
  | some j =>
   right
   intro e
   exact h.apart j e.symm hu
 ·intro j hj hu
  have hj':g = j:=by simpa [Value.ownBlock] using hj
  subst hj'
  rcases hat with e | e
  ·exact h.apart _ e hu
  ·have:=(own_ge h.own2 _ hu).2
   omega
theorem own_slI {w:World} {base n:Nat} {v:Value} {xs:List Int} (h:w.ownsRow base 3 1 v n (valsI xs)):∃ a c,v = .slice a n c ∧ SlI w a n c xs:=by
 have hl:xs.length = n:=by have:=h.1; simpa [valsI] using this
 rcases h.2 with ⟨rfl,rfl⟩ | ⟨b,cap,cur,rfl,h4,h5,h6,h7,h8,h9⟩
 ·have:xs = []:=List.eq_nil_of_length_eq_zero hl
  subst this
  exact ⟨none,0,rfl,SlI.nil _⟩
 ·refine ⟨_,_,rfl,⟨hl,h6,h7,.inr ⟨b,0,rfl,fun i hi => ?_⟩⟩⟩
  rw [Nat.zero_add,cell_of_block h5]
  have:(cur.toList.take (n * 1))[i]? = (valsI xs)[i]?:=by rw [h9]
  rw [List.getElem?_take_of_lt (by omega)] at this
  rw [← Array.getElem?_toList,this]
  simp [valsI,List.getD,hi]
theorem take_snoc {cols:List Int} {i:Nat} {x:Int} (hi:i < cols.length) (hx:cols.getD i 0 = x):cols.take (i + 1) = cols.take i ++ [x]:=by
 rw [List.take_add_one]
 congr 1
 subst hx
 simp [hi,List.getD]
end Go.Proofs.YtkbcmnjgkmkeaaaGreat
