/- Sp9 -/
import Derived.Test.YtkbcmnjgkmkeaaaGreatSp8
import Derived.Test.YtkbcmnjgkmkeaaaGreatCg4
namespace Go.Proofs.YtkbcmnjgkmkeaaaGreat
open Go.RowKit Go.Deep Go.Shelf
set_option linter.unusedVariables false
attribute [local go_sem] Oper.semAt_some

structure PgI (w W:World) (B b1 b2:Nat) (rs cs:List Int):Prop where
 bel:Below w.heap.size w W
 two:∃ v u,(W.heap[b1]? = some (.cells #[v] 22 (0,0)) ∧ W.heap[b2]? = some (.cells #[u] 22 (0,0))) ∧ W.ownsRow B 3 1 v rs.length (valsI rs) ∧ W.ownsRow B 3 1 u cs.length (valsI cs) ∧ ∀ g,v.ownBlock = some g → u.ownBlock ≠ some g
 le:B ≤ W.heap.size
theorem own_keptP {w w':World} {B:Nat} {e:TypeId} {v:Value} {n:Nat} {xs:List Value} (h:w.ownsRow B e 1 v n xs) {row:Option Nat} (hg:w.grownBy w' row) (hr:∀ r,row = some r → ∃ o:Obj,w.heap[r]? = some o ∧ o.isCells = false):w'.ownsRow B e 1 v n xs:=by
 refine h.kept hg ?_
 rcases h.2 with ⟨h1,_⟩ | ⟨g,cap,cur,h1,h2,h3,_⟩
 ·left; rw [h1]; rfl
 ·right
  rw [h1]
  intro he
  obtain ⟨o,ho,hc⟩:=hr g he.symm
  rw [h3] at ho
  cases ho
  cases hc
theorem blk_keptP {w w':World} {k:Nat} {cs:Array Value} {e:TypeId} (h:w.heap[k]? = some (.cells cs e (0,0))) {row:Option Nat} (hg:w.grownBy w' row) (hr:∀ r,row = some r → ∃ o:Obj,w.heap[r]? = some o ∧ o.isCells = false):w'.heap[k]? = some (.cells cs e (0,0)):=by
 refine (hg.block k (Array.getElem?_eq_some_iff.1 h).1 (fun he => ?_)).trans h
 obtain ⟨o,ho,hc⟩:=hr k he.symm
 rw [h] at ho
 cases ho
 cases hc
theorem PgI.own {β:Type} {w:World} {B b1 b2:Nat} (r c:β → List Int) (hB:w.heap.size ≤ B):OwnFrom B (fun (s:β) W => PgI w W B b1 b2 (r s) (c s)):=by
 intro s W W' row h hg hr
 have hr':∀ r,row = some r → ∃ o:Obj,W.heap[r]? = some o ∧ o.isCells = false:=fun r e => (hr r e).2
 obtain ⟨v,u,⟨k1,k2⟩,o1,o2,ap⟩:=h.two
 exact ⟨h.bel.grown hg h.bel.size (fun k e => Nat.le_trans hB (hr k e).1),⟨v,u,⟨blk_keptP k1 hg hr',blk_keptP k2 hg hr'⟩,own_keptP o1 hg hr',own_keptP o2 hg hr',ap⟩,Nat.le_trans h.le hg.size⟩
structure AqS (W Wc:World) (B b1 b2:Nat) (v0 u0 v u:Value) (rs cs:List Int):Prop where
 chg:Chg (fun j => v0.ownBlock = some j ∨ u0.ownBlock = some j ∨ j = b1) W Wc
 bx1:Wc.heap[b1]? = some (.cells #[v0] 22 (0,0))
 bx2:Wc.heap[b2]? = some (.cells #[u0] 22 (0,0))
 own1:Wc.ownsRow B 3 1 v rs.length (valsI rs)
 own2:Wc.ownsRow B 3 1 u cs.length (valsI cs)
 apart:∀ g,v.ownBlock = some g → u.ownBlock ≠ some g
 le:B ≤ Wc.heap.size
 lw:W.heap.size ≤ Wc.heap.size
 kp:KeepsFrom B W Wc
theorem AqS.below {W Wc Wn:World} {B b1 b2:Nat} {v0 u0 v u:Value} {rs cs:List Int} (h:AqS W Wc B b1 b2 v0 u0 v u rs cs) (k:Below Wc.heap.size Wc Wn):AqS W Wn B b1 b2 v0 u0 v u rs cs:=by
 have lt:∀ {i:Nat} {o:Obj},Wc.heap[i]? = some o → i < Wc.heap.size:=fun h => (Array.getElem?_eq_some_iff.1 h).1
 refine ⟨⟨k.os.trans h.chg.os,k.tape.trans h.chg.tape,k.output.trans h.chg.output,Nat.le_trans h.chg.size k.size,fun j hj hS => (k.block j (Nat.lt_of_lt_of_le hj h.lw)).trans (h.chg.block j hj hS)⟩,(k.block _ (lt h.bx1)).trans h.bx1,(k.block _ (lt h.bx2)).trans h.bx2,ownsRow_chg (S:=fun _ => False) h.own1 (.of_below k) (fun _ _ => id),ownsRow_chg (S:=fun _ => False) h.own2 (.of_below k) (fun _ _ => id),h.apart,Nat.le_trans h.le k.size,Nat.le_trans h.lw k.size,⟨Nat.le_trans h.kp.size k.size,fun j o hB hj ho => by
  have h1:=h.kp.same j o hB hj ho
  exact (k.block _ (lt h1)).trans h1⟩⟩
theorem frz_blk {w:World} {b:Nat} {cs:Array Value} {e:TypeId} (h:w.heap[b]? = some (.cells cs e (0,0))) (i:Nat):w.frozen? ⟨b,i,none⟩ = false:=by simp [World.frozen?,h]
theorem AqS.c1 {W Wc:World} {B b1 b2:Nat} {v0 u0 v u:Value} {rs cs:List Int} (h:AqS W Wc B b1 b2 v0 u0 v u rs cs):Wc.cell? ⟨b1,0,none⟩ = some v0:=(cell_of_block h.bx1 0).trans rfl
theorem AqS.f1 {W Wc:World} {B b1 b2:Nat} {v0 u0 v u:Value} {rs cs:List Int} (h:AqS W Wc B b1 b2 v0 u0 v u rs cs):Wc.frozen? ⟨b1,0,none⟩ = false:=frz_blk h.bx1 0
theorem AqS.c2 {W Wc:World} {B b1 b2:Nat} {v0 u0 v u:Value} {rs cs:List Int} (h:AqS W Wc B b1 b2 v0 u0 v u rs cs) (y:Value) (hne:b1 ≠ b2):(Wc.setCell ⟨b1,0,none⟩ y).cell? ⟨b2,0,none⟩ = some u0:=(cell_of_block ((blk_setCell_other _ _ _ _ (fun e => hne e.symm)).trans h.bx2) 0).trans rfl
theorem AqS.f2 {W Wc:World} {B b1 b2:Nat} {v0 u0 v u:Value} {rs cs:List Int} (h:AqS W Wc B b1 b2 v0 u0 v u rs cs) (y:Value) (hne:b1 ≠ b2):(Wc.setCell ⟨b1,0,none⟩ y).frozen? ⟨b2,0,none⟩ = false:=frz_blk ((blk_setCell_other _ _ _ _ (fun e => hne e.symm)).trans h.bx2) 0
theorem own_slG {w:World} {base n:Nat} {e:TypeId} {v:Value} {xs:List Int} (h:w.ownsRow base e 1 v n (valsI xs)):∃ a c,v = .slice a n c ∧ SlI w a n c xs:=by
 have hl:xs.length = n:=by have:=h.1; simpa [valsI] using this
 rcases h.2 with ⟨rfl,rfl⟩ | ⟨b,cap,cur,rfl,h4,h5,h6,h7,h8,h9⟩
 ·have:xs = []:=List.eq_nil_of_length_eq_zero hl
  subst this
  exact ⟨none,0,rfl,SlI.nil _⟩
 ·refine ⟨_,_,rfl,⟨hl,h6,h7,.inr ⟨b,0,rfl,fun i hi => ?_⟩⟩⟩
  rw [Nat.zero_add,cell_of_block h5]
  have:(cur.toList.take (n * 1))[i]? = (valsI xs)[i]?:=by rw [h9]
  rw [List.getElem?_take_of_lt (by omega)] at this
  rw [← Array.getElem?_toList,this]
  simp [valsI,List.getD,hi]
theorem kpY_t {Z:Nat → Prop} {n₀:Nat} {A B C:World} (h:KpY Z n₀ A B) (k:KpY Z n₀ B C):KpY Z n₀ A C:=Chg.trans h k
theorem kpY_b {Z:Nat → Prop} {n₀:Nat} {w:World} (hn:n₀ ≤ w.heap.size) (W:World) (l:Nat) (o o':Obj) (hl:w.heap.size ≤ l) (h:W.heap[l]? = some o) (_:o.isCells = false) (_:o.isWalk = false):KpY Z n₀ W (W.putObj l o') :=
 ⟨rfl,rfl,rfl,by simp,fun k hk hs => World.putObj_heap_other (fun e => hs (.inr (by omega)))⟩
end Go.Proofs.YtkbcmnjgkmkeaaaGreat
