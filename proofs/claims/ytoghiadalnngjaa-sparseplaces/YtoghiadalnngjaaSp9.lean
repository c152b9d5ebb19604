/- Sp9 -/
import Derived.Test.YtoghiadalnngjaaSp8
import Derived.Test.YtoghiadalnngjaaRq2
namespace Go.Proofs.Ytoghiadalnngjaa
open Go.RowKit Go.Deep Go.Shelf
set_option linter.unusedVariables false
attribute [local go_sem] Oper.semAt_some

structure PgI (w W:World) (B b1 b2:Nat) (rs cs:List Int):Prop where
 bel:Below w.heap.size w W
 two:∃ v u,(W.heap[b1]? = some (.cells #[v] 22 (0,0)) ∧ W.heap[b2]? = some (.cells #[u] 22 (0,0))) ∧ W.ownsRow B 3 1 v rs.length (valsI rs) ∧ W.ownsRow B 3 1 u cs.length (valsI cs) ∧ ∀ g,v.ownBlock = some g → u.ownBlock ≠ some g
 le:B ≤ W.heap.size
theorem own_keptP {w w':World} {B:Nat} {e:TypeId} {v:Value} {n:Nat} {xs:List Value} (h:w.ownsRow B e 1 v n xs) {row:Option Nat} (hg:w.grownBy w' row) (hr:∀ r,row = some r → ∃ o:Obj,w.heap[r]? = some o ∧ o.isCells = false):w'.ownsRow B e 1 v n xs:=by
 refine h.kept hg ?_
 rcases h.2 with ⟨h1,_⟩ | ⟨g,cap,cur,h1,h2,h3,_⟩
 ·left; rw [h1]; rfl
 ·right
  rw [h1]
  intro he
  obtain ⟨o,ho,hc⟩:=hr g he.symm
  rw [h3] at ho
  cases ho
  cases hc
theorem blk_keptP {w w':World} {k:Nat} {cs:Array Value} {e:TypeId} (h:w.heap[k]? = some (.cells cs e (0,0))) {row:Option Nat} (hg:w.grownBy w' row) (hr:∀ r,row = some r → ∃ o:Obj,w.heap[r]? = some o ∧ o.isCells = false):w'.heap[k]? = some (.cells cs e (0,0)):=by
 refine (hg.block k (Array.getElem?_eq_some_iff.1 h).1 (fun he => ?_)).trans h
 obtain ⟨o,ho,hc⟩:=hr k he.symm
 rw [h] at ho
 cases ho
 cases hc
theorem PgI.own {β:Type} {w:World} {B b1 b2:Nat} (r c:β → List Int) (hB:w.heap.size ≤ B):OwnFrom B (fun (s:β) W => PgI w W B b1 b2 (r s) (c s)):=by
 intro s W W' row h hg hr
 have hr':∀ r,row = some r → ∃ o:Obj,W.heap[r]? = some o ∧ o.isCells = false:=fun r e => (hr r e).2
 obtain ⟨v,u,⟨k1,k2⟩,o1,o2,ap⟩:=h.two
 exact ⟨h.bel.grown hg h.bel.size (fun k e => Nat.le_trans hB (hr k e).1),⟨v,u,⟨blk_keptP k1 hg hr',blk_keptP k2 hg hr'⟩,own_keptP o1 hg hr',own_keptP o2 hg hr',ap⟩,Nat.le_trans h.le hg.size⟩
structure AqS (W Wc:World) (B b1 b2:Nat) (v0 u0 v u:Value) (rs cs:List Int):Prop where
 chg:Chg (fun j => v0.ownBlock = some j ∨ u0.ownBlock = some j ∨ j = b1) W Wc
 bx1:Wc.heap[b1]? = some (.cells #[v0] 22 (0,0))
 bx2:Wc.heap[b2]? = some (.cells #[u0] 22 (0,0))
 own1:Wc.ownsRow B 3 1 v rs.length (valsI rs)
 own2:Wc.ownsRow B 3 1 u cs.length (valsI cs)
 apart:∀ g,v.ownBlock = some g → u.ownBlock ≠ some g
 le:B ≤ Wc.heap.size
 lw:W.heap.size ≤ Wc.heap.size
 kp:KeepsFrom B W Wc
theorem own_neP {w:World} {B:Nat} {e:TypeId} {v:Value} {n:Nat} {xs:List Value} (h:w.ownsRow B e 1 v n xs) {k:Nat} {cs:Array Value} {e2:TypeId} (hk:w.heap[k]? = some (.cells cs e2 (0,0))) (hne:e ≠ e2):v.ownBlock ≠ some k:=by
 intro he
 rcases h.2 with ⟨h1,_⟩ | ⟨g,cap,cur,h1,h2,h3,_⟩
 ·rw [h1] at he; simp [Value.ownBlock] at he
 ·rw [h1] at he
  have:g = k:=by simpa [Value.ownBlock] using he
  subst this
  rw [h3] at hk
  cases hk
  exact hne rfl
theorem AqS.below {W Wc Wn:World} {B b1 b2:Nat} {v0 u0 v u:Value} {rs cs:List Int} (h:AqS W Wc B b1 b2 v0 u0 v u rs cs) (k:Below Wc.heap.size Wc Wn):AqS W Wn B b1 b2 v0 u0 v u rs cs:=by
 have lt:∀ {i:Nat} {o:Obj},Wc.heap[i]? = some o → i < Wc.heap.size:=fun h => (Array.getElem?_eq_some_iff.1 h).1
 refine ⟨⟨k.os.trans h.chg.os,k.tape.trans h.chg.tape,k.output.trans h.chg.output,Nat.le_trans h.chg.size k.size,fun j hj hS => (k.block j (Nat.lt_of_lt_of_le hj h.lw)).trans (h.chg.block j hj hS)⟩,(k.block _ (lt h.bx1)).trans h.bx1,(k.block _ (lt h.bx2)).trans h.bx2,ownsRow_chg (S:=fun _ => False) h.own1 (.of_below k) (fun _ _ => id),ownsRow_chg (S:=fun _ => False) h.own2 (.of_below k) (fun _ _ => id),h.apart,Nat.le_trans h.le k.size,Nat.le_trans h.lw k.size,⟨Nat.le_trans h.kp.size k.size,fun j o hB hj ho => by
  have h1:=h.kp.same j o hB hj ho
  exact (k.block _ (lt h1)).trans h1⟩⟩
theorem AqS.app1 {W Wc W3:World} {B b1 b2:Nat} {v0 u0 u:Value} {rs cs:List Int} {x:Int} {g cap:Nat} (h:AqS W Wc B b1 b2 v0 u0 v0 u rs cs) (hown:W3.ownsRow B 3 1 (.slice (some ⟨g,0,none⟩) (rs.length + 1) cap) (rs.length + 1) (valsI rs ++ [.int .i64 x])) (hg:Wc.grownBy W3 v0.ownBlock) (hat:v0.ownBlock = some g ∨ g = Wc.heap.size) :
  AqS W W3 B b1 b2 v0 u0 (.slice (some ⟨g,0,none⟩) (rs.length + 1) cap) u (rs ++ [x]) cs:=by
 have lt:∀ {i:Nat} {o:Obj},Wc.heap[i]? = some o → i < Wc.heap.size:=fun h => (Array.getElem?_eq_some_iff.1 h).1
 have k:∀ {i:Nat} {o:Obj},Wc.heap[i]? = some o → some i ≠ v0.ownBlock → W3.heap[i]? = some o:=fun hi hne => (hg.block _ (lt hi) hne).trans hi
 refine ⟨⟨hg.os.trans h.chg.os,hg.tape.trans h.chg.tape,hg.output.trans h.chg.output,Nat.le_trans h.chg.size hg.size,fun j hj hS => (hg.block j (Nat.lt_of_lt_of_le hj h.lw) (fun e => hS (.inl e.symm))).trans (h.chg.block j hj hS)⟩,k h.bx1 (fun e => own_neP h.own1 h.bx1 (by decide) e.symm),k h.bx2 (fun e => own_neP h.own1 h.bx2 (by decide) e.symm),by simpa [valsI] using hown,h.own2.kept hg ?_,?_,Nat.le_trans h.le hg.size,Nat.le_trans h.lw hg.size,⟨Nat.le_trans h.kp.size hg.size,fun j o hB hj ho => ?_⟩⟩
 ·cases hu:u.ownBlock with
  | none => exact .inl rfl
  | some j => right; intro e; exact h.apart j e.symm hu
 ·intro j hj hu
  have hj':g = j:=by simpa [Value.ownBlock] using hj
  subst hj'
  rcases hat with e | e
  ·exact h.apart _ e hu
  ·have:=(own_ge h.own2 _ hu).2; omega
 ·have h1:=h.kp.same j o hB hj ho
  refine k h1 (fun e => ?_)
  rcases h.own1.2 with ⟨h2,_⟩ | ⟨g',cap',cur,h2,h3,h4,_⟩
  ·rw [h2] at e; simp [Value.ownBlock] at e
  ·rw [h2] at e
   have:j = g':=by simpa [Value.ownBlock] using e
   subst this
   rw [h4] at h1
   cases h1
   cases ho
theorem AqS.app2 {W Wc W3:World} {B b1 b2:Nat} {v0 u0 v:Value} {rs cs:List Int} {x:Int} {g cap:Nat} (h:AqS W Wc B b1 b2 v0 u0 v u0 rs cs) (hown:W3.ownsRow B 3 1 (.slice (some ⟨g,0,none⟩) (cs.length + 1) cap) (cs.length + 1) (valsI cs ++ [.int .i64 x])) (hg:Wc.grownBy W3 u0.ownBlock) (hat:u0.ownBlock = some g ∨ g = Wc.heap.size) :
  AqS W W3 B b1 b2 v0 u0 v (.slice (some ⟨g,0,none⟩) (cs.length + 1) cap) rs (cs ++ [x]):=by
 have lt:∀ {i:Nat} {o:Obj},Wc.heap[i]? = some o → i < Wc.heap.size:=fun h => (Array.getElem?_eq_some_iff.1 h).1
 have k:∀ {i:Nat} {o:Obj},Wc.heap[i]? = some o → some i ≠ u0.ownBlock → W3.heap[i]? = some o:=fun hi hne => (hg.block _ (lt hi) hne).trans hi
 refine ⟨⟨hg.os.trans h.chg.os,hg.tape.trans h.chg.tape,hg.output.trans h.chg.output,Nat.le_trans h.chg.size hg.size,fun j hj hS => (hg.block j (Nat.lt_of_lt_of_le hj h.lw) (fun e => hS (.inr (.inl e.symm)))).trans (h.chg.block j hj hS)⟩,k h.bx1 (fun e => own_neP h.own2 h.bx1 (by decide) e.symm),k h.bx2 (fun e => own_neP h.own2 h.bx2 (by decide) e.symm),h.own1.kept hg ?_,by simpa [valsI] using hown,?_,Nat.le_trans h.le hg.size,Nat.le_trans h.lw hg.size,⟨Nat.le_trans h.kp.size hg.size,fun j o hB hj ho => ?_⟩⟩
 ·cases hv:v.ownBlock with
  | none => exact .inl rfl
  | some j => right; intro e; exact h.apart j hv e.symm
 ·intro j hj hu
  have hu':g = j:=by simpa [Value.ownBlock] using hu
  subst hu'
  rcases hat with e | e
  ·exact h.apart _ hj e
  ·have:=(own_ge h.own1 _ hj).2; omega
 ·have h1:=h.kp.same j o hB hj ho
  refine k h1 (fun e => ?_)
  rcases h.own2.2 with ⟨h2,_⟩ | ⟨g',cap',cur,h2,h3,h4,_⟩
  ·rw [h2] at e; simp [Value.ownBlock] at e
  ·rw [h2] at e
   have:j = g':=by simpa [Value.ownBlock] using e
   subst this
   rw [h4] at h1
   cases h1
   cases ho
theorem frz_blk {w:World} {b:Nat} {cs:Array Value} {e:TypeId} (h:w.heap[b]? = some (.cells cs e (0,0))) (i:Nat):w.frozen? ⟨b,i,none⟩ = false:=by simp [World.frozen?,h]
theorem AqS.c1 {W Wc:World} {B b1 b2:Nat} {v0 u0 v u:Value} {rs cs:List Int} (h:AqS W Wc B b1 b2 v0 u0 v u rs cs):Wc.cell? ⟨b1,0,none⟩ = some v0:=(cell_of_block h.bx1 0).trans rfl
theorem AqS.f1 {W Wc:World} {B b1 b2:Nat} {v0 u0 v u:Value} {rs cs:List Int} (h:AqS W Wc B b1 b2 v0 u0 v u rs cs):Wc.frozen? ⟨b1,0,none⟩ = false:=frz_blk h.bx1 0
theorem AqS.c2 {W Wc:World} {B b1 b2:Nat} {v0 u0 v u:Value} {rs cs:List Int} (h:AqS W Wc B b1 b2 v0 u0 v u rs cs) (y:Value) (hne:b1 ≠ b2):(Wc.setCell ⟨b1,0,none⟩ y).cell? ⟨b2,0,none⟩ = some u0:=(cell_of_block ((blk_setCell_other _ _ _ _ (fun e => hne e.symm)).trans h.bx2) 0).trans rfl
theorem AqS.f2 {W Wc:World} {B b1 b2:Nat} {v0 u0 v u:Value} {rs cs:List Int} (h:AqS W Wc B b1 b2 v0 u0 v u rs cs) (y:Value) (hne:b1 ≠ b2):(Wc.setCell ⟨b1,0,none⟩ y).frozen? ⟨b2,0,none⟩ = false:=frz_blk ((blk_setCell_other _ _ _ _ (fun e => hne e.symm)).trans h.bx2) 0
theorem AqS.fin {w W Wc:World} {B b1 b2:Nat} {v0 u0 v u:Value} {rs cs:List Int} (h:AqS W Wc B b1 b2 v0 u0 v u rs cs) (hb:Below w.heap.size w W) (hwB:w.heap.size ≤ B) (hb1:w.heap.size ≤ b1) (hb2:w.heap.size ≤ b2) (hne:b1 ≠ b2) (l1:∀ j,v0.ownBlock = some j → B ≤ j) (l2:∀ j,u0.ownBlock = some j → B ≤ j) :
  KeepsFrom B W ((Wc.setCell ⟨b1,0,none⟩ v).setCell ⟨b2,0,none⟩ u) ∧ KpY (fun j => j = b1 ∨ j = b2) B W ((Wc.setCell ⟨b1,0,none⟩ v).setCell ⟨b2,0,none⟩ u) ∧ PgI w ((Wc.setCell ⟨b1,0,none⟩ v).setCell ⟨b2,0,none⟩ u) B b1 b2 rs cs:=by
 have c1:Chg (fun j => j = b1 ∨ j = b2) Wc ((Wc.setCell ⟨b1,0,none⟩ v).setCell ⟨b2,0,none⟩ u):=(Chg.of_set (S:=fun j => j = b1 ∨ j = b2) _ _ _ _ (.inl rfl)).trans (Chg.of_set (S:=fun j => j = b1 ∨ j = b2) _ _ _ _ (.inr rfl))
 have c0:KpY (fun j => j = b1 ∨ j = b2) B W ((Wc.setCell ⟨b1,0,none⟩ v).setCell ⟨b2,0,none⟩ u):=by
  refine ⟨c1.os.trans h.chg.os,c1.tape.trans h.chg.tape,c1.output.trans h.chg.output,Nat.le_trans h.chg.size c1.size,fun j hj hS => ?_⟩
  rw [c1.block j (Nat.lt_of_lt_of_le hj h.lw) (fun e => hS (.inl e)),h.chg.block j hj (fun e => hS ?_)]
  rcases e with e | e | e
  ·exact .inr (l1 j e)
  ·exact .inr (l2 j e)
  ·exact .inl (.inl e)
 have r1:(Wc.setCell ⟨b1,0,none⟩ v).heap[b1]? = some (.cells #[v] 22 (0,0)):=by simp [World.setCell,Array.getElem?_modify,h.bx1]
 have r2:(Wc.setCell ⟨b1,0,none⟩ v).heap[b2]? = some (.cells #[u0] 22 (0,0)):=by rw [blk_setCell_other _ _ _ _ (fun e => hne e.symm)]; exact h.bx2
 have o1:=ownsRow_chg h.own1 c1 (fun j hj e => by rcases e with rfl | rfl; exact own_neP h.own1 h.bx1 (by decide) hj; exact own_neP h.own1 h.bx2 (by decide) hj)
 have o2:=ownsRow_chg h.own2 c1 (fun j hj e => by rcases e with rfl | rfl; exact own_neP h.own2 h.bx1 (by decide) hj; exact own_neP h.own2 h.bx2 (by decide) hj)
 refine ⟨h.kp.trans ⟨c1.size,fun j o hB hj ho => ?_⟩,c0,⟨hb.trans (c0.below hb.size (fun j hj e => by rcases e with (e | e) | e <;> omega)),⟨v,u,⟨?_,?_⟩,o1,o2,h.apart⟩,Nat.le_trans h.le c1.size⟩⟩
 ·refine (c1.block j (Array.getElem?_eq_some_iff.1 hj).1 (fun e => ?_)).trans hj
  rcases e with rfl | rfl
  ·rw [h.bx1] at hj; cases hj; cases ho
  ·rw [h.bx2] at hj; cases hj; cases ho
 ·rw [blk_setCell_other _ _ _ _ hne]; exact r1
 ·simp [World.setCell,Array.getElem?_modify] at r2 ⊢
  rw [r2]
  simp
theorem own_slG {w:World} {base n:Nat} {e:TypeId} {v:Value} {xs:List Int} (h:w.ownsRow base e 1 v n (valsI xs)):∃ a c,v = .slice a n c ∧ SlI w a n c xs:=by
 have hl:xs.length = n:=by have:=h.1; simpa [valsI] using this
 rcases h.2 with ⟨rfl,rfl⟩ | ⟨b,cap,cur,rfl,h4,h5,h6,h7,h8,h9⟩
 ·have:xs = []:=List.eq_nil_of_length_eq_zero hl
  subst this
  exact ⟨none,0,rfl,SlI.nil _⟩
 ·refine ⟨_,_,rfl,⟨hl,h6,h7,.inr ⟨b,0,rfl,fun i hi => ?_⟩⟩⟩
  rw [Nat.zero_add,cell_of_block h5]
  have:(cur.toList.take (n * 1))[i]? = (valsI xs)[i]?:=by rw [h9]
  rw [List.getElem?_take_of_lt (by omega)] at this
  rw [← Array.getElem?_toList,this]
  simp [valsI,List.getD,hi]
theorem rowC_row {st cols:List Int} {width:Int} {k X Y:Nat} (h:RowAt st cols width k X Y):rowC st cols k = (cols.drop X).take (Y - X):=by
 unfold rowC
 rw [h.hX,h.hY]
 rfl
theorem flP_maps {R:Nat} {width:Int} {st cols:List Int} (hm:MayP (R:Int) width st cols):∀ k,k ≤ R → (flP (rowC st cols) k).map (·.1) = plR st k ∧ (flP (rowC st cols) k).map (·.2) = cols.take (st.getD k 0).toNat
 | 0,_ => by rw [hm.head.first]; exact ⟨rfl,rfl⟩
 | k + 1,hk => by
  obtain ⟨X,Y,h⟩:=hm.rowAt (k:=k) (by omega)
  obtain ⟨i1,i2⟩:=flP_maps hm k (by omega)
  have hl:(rowC st cols k).length = Y - X:=by rw [rowC_row h,List.length_take,List.length_drop]; have:=h.lt; have:=h.le; omega
  constructor
  ·show ((flP (rowC st cols) k) ++ (rowC st cols k).map (fun c => ((k:Int),c))).map (·.1) = _
   rw [List.map_append,i1,plR_row h,List.map_map]
   congr 1
   rw [← hl]
   exact List.eq_replicate_iff.2 ⟨by simp,fun b hb => by obtain ⟨c,_,rfl⟩:=List.mem_map.1 hb; rfl⟩
  ·show ((flP (rowC st cols) k) ++ (rowC st cols k).map (fun c => ((k:Int),c))).map (·.2) = _
   rw [List.map_append,i2,List.map_map,h.hX,h.hY]
   have e1:(rowC st cols k).map ((fun p:Int × Int => p.2) ∘ fun c => ((k:Int),c)) = rowC st cols k:=by
    have:((fun p:Int × Int => p.2) ∘ fun c => ((k:Int),c)) = id:=by funext c; rfl
    rw [this,List.map_id]
   rw [e1,rowC_row h]
   show cols.take X ++ (cols.drop X).take (Y - X) = cols.take Y
   rw [← List.take_add,show X + (Y - X) = Y by have:=h.le; omega]
theorem kpY_t {Z:Nat → Prop} {n₀:Nat} {A B C:World} (h:KpY Z n₀ A B) (k:KpY Z n₀ B C):KpY Z n₀ A C:=Chg.trans h k
theorem kpY_b {Z:Nat → Prop} {n₀:Nat} {w:World} (hn:n₀ ≤ w.heap.size) (W:World) (l:Nat) (o o':Obj) (hl:w.heap.size ≤ l) (h:W.heap[l]? = some o) (_:o.isCells = false) (_:o.isWalk = false):KpY Z n₀ W (W.putObj l o') :=
 ⟨rfl,rfl,rfl,by simp,fun k hk hs => World.putObj_heap_other (fun e => hs (.inr (by omega)))⟩
set_option maxHeartbeats 8000000 in
set_option maxRecDepth 100000 in
theorem splaces_yes (R:Nat) (width:Int) (a1 a2:Option Addr) (n1 c1 n2 c2:Nat) (st cols:List Int) (w:World) (h1:SlI w a1 n1 c1 st) (h2:SlI w a2 n2 c2 cols) (hb1:n1 ≤ 17592186044000) (hb2:n2 ≤ 17592186044000) (hm:MayP (R:Int) width st cols) :
  Calls Try.prog 7 #[patV (R:Int) width a1 n1 c1 a2 n2 c2] w fun e w' => PlP w w' e (plR st R) cols:=by
 obtain ⟨wb,hwb⟩:∃ x,w.alloc (.cells #[.int .i64 (R:Int),.int .i64 width,.slice a1 n1 c1,.slice a2 n2 c2] 24) = x:=⟨_,rfl⟩
 have bb:Below w.heap.size w wb:=by rw [← hwb]; exact bAl
 have hT:=BoxP.made w #[.int .i64 (R:Int),.int .i64 width,.slice a1 n1 c1,.slice a2 n2 c2] 24
 rw [hwb] at hT
 have p0:=(hT.all 0 _ rfl).1
 have p1:=(hT.all 1 _ rfl).1
 have p2:=(hT.all 2 _ rfl).1
 have p3:=(hT.all 3 _ rfl).1
 have KM:=Hj (smay_any (R:Int) width a1 a2 n1 c1 n2 c2 st cols wb (h1.below bb) (h2.below bb) (by omega) (by omega))
 have HP:=Hj hT
 have HS:=Hj (And.intro h1 h2)
 have HB:=Hj bb
 have HM:=Hj hm
 have HTR:=Hj (show TruQ true (MayP (R:Int) width st cols) from ⟨fun _ => hm,fun _ => rfl⟩)
 have HLN:=Hj (And.intro h1.len (And.intro h2.len hm.head.len))
 obtain ⟨i64,hi,hz,hs,hb⟩:=info_parts Try.info_i64
 have HI:=Hj (And.intro hi (And.intro hz (And.intro hs hb)))
 clear hT bb h1 h2 hm hi hz hs hb
 unfold patV
 unfold patV at KM
 refine (callsIn_wide (n:=4)).1 ?_
 refine callsIn_of_wp_marks Try.func7 rfl trivial ?_ rfl
 simp only [Try.ntmps7,List.size_toArray,List.length_cons,List.length_nil,Nat.reduceAdd,Nat.reduceSub,Array.replicate_succ,Array.replicate_zero,List.push_toArray,List.append_toArray,List.nil_append,List.cons_append]
 gi_wp2_with fail
 refine ⟨trivial,(callsIn_wide.2 (Uh KM)).mono ?_⟩
 intro e w1 hq
 obtain ⟨rfl,b1⟩:=hq.known (Uh HTR)
 have HP1:=Hj ((Uh HP).below b1)
 have HB1:=Hj ((Uh HB).trans (b1.mono (Uh HB).size))
 clear b1 hq KM HTR p0 p1 p2 p3
 obtain ⟨w2,hw2⟩:∃ y,(w1.alloc (.cells #[.slice none 0 0] 22)).alloc (.cells #[.slice none 0 0] 22) = y:=⟨_,rfl⟩
 have b2:Below w1.heap.size w1 w2:=by rw [← hw2]; exact (bAl).alloc (by simp) _
 have hp2:=(Uh HP1).below b2
 have p0:=(hp2.all 0 _ rfl).1
 have p1:=(hp2.all 1 _ rfl).1
 have p2:=(hp2.all 2 _ rfl).1
 have p3:=(hp2.all 3 _ rfl).1
 have k1:w2.heap[w1.heap.size]? = some (.cells #[.slice none 0 0] 22 (0,0)):=by rw [← hw2]; exact (((Below.refl (w1.alloc (.cells #[.slice none 0 0] 22)).heap.size _).alloc (Nat.le_refl _) _).block _ (by simp)).trans (alloc_block _ _)
 have k2:w2.heap[w1.heap.size + 1]? = some (.cells #[.slice none 0 0] 22 (0,0)):=by rw [← hw2]; have:=alloc_block (w1.alloc (.cells #[.slice none 0 0] 22)) (.cells #[.slice none 0 0] 22); rwa [show (w1.alloc (.cells #[.slice none 0 0] 22)).heap.size = w1.heap.size + 1 from by simp] at this
 have HK2:=Hj (And.intro k1 (And.intro k2 (show w2.heap.size = w1.heap.size + 2 by rw [← hw2]; simp)))
 have bw2:=(Uh HB1).trans (b2.mono (Uh HB1).size)
 have HB2:=Hj bw2
 have KG:=Hj (sgridOf_any R width a1 a2 n1 c1 n2 c2 st cols w2 ((Uh HS).1.below bw2) ((Uh HS).2.below bw2) hb1 hb2 (Uh HM))
 unfold patV at KG
 clear b2 hp2 k1 k2 bw2
 gi_wp2_with fail
 refine ⟨trivial,(callsIn_wide.2 (Uh KG)).mono ?_⟩
 rintro _ w3 ⟨t,L,f,hLL,rfl,hL,b3⟩
 have HL:=Hj (And.intro hL hLL)
 have HB3:=Hj b3
 clear hL hLL b3 KG p0 p1 p2 p3
 gi_wp2_with fail
 refine ⟨trivial,(cells_in 3 width L R w3).mono ?_⟩
 rintro _ _ ⟨rfl,rfl⟩
 obtain ⟨wf,hwf⟩:∃ y,w3.alloc (.cells #[.int .i64 width,.slice (some ⟨L,0,none⟩) R R] 64) = y:=⟨_,rfl⟩
 have bwf:Below w3.heap.size w3 wf:=by rw [← hwf]; exact bAl
 have hbox:=BoxP.made w3 #[.int .i64 width,.slice (some ⟨L,0,none⟩) R R] 64
 rw [hwf] at hbox
 have hLf:=(Uh HL).1.below bwf
 have hk:=Uh HK2
 have hw3:=(Uh HB3).size
 have hLL:=(Uh HL).2
 have hfit:=(Uh HM).head.fit
 have hG:GrZ wf (fun j => j = w1.heap.size ∨ j = w1.heap.size + 1) wf.heap.size w3.heap.size L R f (rowC st cols):=by
  refine ⟨(hbox.all 1 _ rfl).1,⟨hbox.lt,by omega⟩,⟨hLf.row.lt,by omega⟩,fun r hr => hLf.row.cell hr,fun r hr => ?_⟩
  obtain ⟨a,c,e,s⟩:=own_slG (hLf.own r hr)
  refine ⟨a,c,e,s,fun z hz hne => ?_⟩
  have:=own_ge (hLf.own r hr) z.block (by rw [e,hz]; rfl)
  exact ⟨this.2,by omega⟩
 have HSeq:=cells_stops 3 (by decide) (fun j => j = w1.heap.size ∨ j = w1.heap.size + 1) w3.heap.size L R f (rowC st cols) wf (by omega) (fun r hr => by
  have h1:=(Uh HLN).2.1
  unfold rowC
  rw [List.length_take,List.length_drop]
  omega) hG
 have hb2f:Below w2.heap.size w2 wf:=(Uh HB3).trans (bwf.mono hw3)
 have hbw:Below w.heap.size w wf:=(Uh HB2).trans (hb2f.mono (Uh HB2).size)
 have HI0:=Hj (show PgI w wf wf.heap.size w1.heap.size (w1.heap.size + 1) (([]:List (Int × Int)).map (·.1)) (([]:List (Int × Int)).map (·.2)) from ⟨hbw,⟨_,_,⟨(hb2f.block _ (by omega)).trans hk.1,(hb2f.block _ (by omega)).trans hk.2.1⟩,World.ownsRow_nil _ _ _ _,World.ownsRow_nil _ _ _ _,fun g hg => (by simp [Value.ownBlock] at hg)⟩,Nat.le_refl _⟩)
 have hle9:=hbw.size
 have hle1:=(Uh HB1).size
 have hlf1:w1.heap.size + 1 < wf.heap.size:=by have:=hb2f.size; omega
 clear bwf hbox hLf hk hw3 hLL hG hb2f hbw hfit
 gi_wp2_with fail
 clear hwf
 refine wpIn_rangeFunc_ownH (F:=Fence.wide) (n:=4) rfl (by decide) (gf:=38) (lb:=#[.pointer (some ⟨w3.heap.size,0,none⟩)]) rfl trivial (enters_of Try.func38 (by kernel_rfl) rfl)
  HSeq kpY_t (kpY_b (Nat.le_refl _)) (Below.refl _ _) (fun _ => rfl)
  (fun (pre:List (Int × Int)) W => PgI w W wf.heap.size w1.heap.size (w1.heap.size + 1) (pre.map (fun p => p.1)) (pre.map (fun p => p.2)))
  (fun c pre W => False)
  (PgI.own (fun pre:List (Int × Int) => pre.map (fun p => p.1)) (fun pre => pre.map (fun p => p.2)) hle9)
  (fun c s W W' row h => h.elim)
  (Uh HI0)
  (fun x a' W => ∃ ab,a' = ({ tmps:=#[Value.agg #[Value.int IntKind.i64 (R:Int),Value.int IntKind.i64 width,Value.slice a1 n1 c1,Value.slice a2 n2 c2],Value.pointer (some { block:=w.heap.size,off:=0 }),Value.slice none 0 0,Value.slice none 0 0,Value.int IntKind.i64 0,Value.pointer (some { block:=w1.heap.size,off:=0 }),Value.pointer (some { block:=w1.heap.size + 1,off:=0 }),Value.pointer (some { block:=ab,off:=0 }),Value.agg #[Value.int IntKind.i64 (R:Int),Value.int IntKind.i64 width,Value.slice a1 n1 c1,Value.slice a2 n2 c2],Value.bool true,Value.bool false,Value.agg #[Value.int IntKind.i64 (R:Int),Value.int IntKind.i64 width,Value.slice a1 n1 c1,Value.slice a2 n2 c2],Value.agg #[Value.int IntKind.i64 width,Value.slice (some { block:=L,off:=0 }) R R],Value.func (Fn.func 38) #[] #[Value.pointer (some { block:=w3.heap.size,off:=0 })],Value.agg #[Value.int IntKind.i64 x.1,Value.int IntKind.i64 x.2],Value.agg #[],undef,undef,undef,undef,undef,undef,undef,undef,undef,undef,undef,undef],defers:=[] }:Act) ∧ W.heap[ab]? = some (Obj.cells #[.int .i64 x.1,.int .i64 x.2] 70 (0,0)))
  (fun x a' _ W W' row h hg hr => by
   obtain ⟨ab,e,hb⟩:=h
   exact ⟨ab,e,blk_keptP hb hg (fun r e => (hr r e).2)⟩) ?assign ?body ?done ?stop
 case assign =>
  intro l pre x W K hI hK
  unfold encP
  gi_wp2
  exact hK _ _ ⟨by simp,fun k o h1 h2 h3 => (((bAl)).block k (Array.getElem?_eq_some_iff.1 h2).1).trans h2⟩ (Chg.of_below (bAl)) (PgI.own (fun pre:List (Int × Int) => pre.map (fun p => p.1)) (fun pre => pre.map (fun p => p.2)) hle9 pre W _ none hI (grown_alloc W _) (fun r e => by cases e)) ⟨_,rfl,alloc_block _ _⟩
 case body =>
  rintro l pre x a' W hl hrec hI ⟨ab,rfl,hab⟩ hlen
  gi_wp2_with fail
  obtain ⟨rr,cc⟩:=x
  obtain ⟨v,u,⟨k1,k2⟩,o1,o2,ap⟩:=hI.two
  have hpl:pre.length < cols.length:=by
   have h8:=(flP_maps (Uh HM) R (Nat.le_refl _)).2
   have h9:=congrArg List.length h8
   rw [List.length_map,List.length_take] at h9
   omega
  have hn2:=(Uh HLN).2.1
  have HFN:=Hj (show ∀ (Wc:World) (v' u':Value),AqS W Wc wf.heap.size w1.heap.size (w1.heap.size + 1) v u v' u' (pre.map (fun p => p.1) ++ [rr]) (pre.map (fun p => p.2) ++ [cc]) → KeepsFrom wf.heap.size W ((Wc.setCell ⟨w1.heap.size,0,none⟩ v').setCell ⟨w1.heap.size + 1,0,none⟩ u') ∧ KpY (fun j => j = w1.heap.size ∨ j = w1.heap.size + 1) wf.heap.size W ((Wc.setCell ⟨w1.heap.size,0,none⟩ v').setCell ⟨w1.heap.size + 1,0,none⟩ u') ∧ PgI w ((Wc.setCell ⟨w1.heap.size,0,none⟩ v').setCell ⟨w1.heap.size + 1,0,none⟩ u') wf.heap.size w1.heap.size (w1.heap.size + 1) ((pre ++ [((rr,cc):Int × Int)]).map (fun p => p.1)) ((pre ++ [((rr,cc):Int × Int)]).map (fun p => p.2)) from fun Wc v' u' h => by
   rw [List.map_append,List.map_append]
   exact h.fin hI.bel hle9 hle1 (by omega) (by omega) (fun j hj => (own_ge o1 j hj).1) (fun j hj => (own_ge o2 j hj).1))
  have hrl:(pre.map (fun p => p.1)).length = pre.length:=List.length_map _
  have hcl:(pre.map (fun p => p.2)).length = pre.length:=List.length_map _
  have hle:=hI.le
  generalize pre.map (fun p => p.1) = rs at *
  generalize pre.map (fun p => p.2) = cs at *
  have HS0:=Hj (show AqS W W.drew wf.heap.size w1.heap.size (w1.heap.size + 1) v u v u rs cs from ⟨Chg.of_drew W,k1,k2,o1,o2,ap,hle,Nat.le_refl _,⟨Nat.le_refl _,fun _ _ _ h _ => h⟩⟩)
  have nab:¬ (fun j => v.ownBlock = some j ∨ u.ownBlock = some j ∨ j = w1.heap.size) ab:=fun e => by
   rcases e with e | e | e
   ·exact own_neP o1 hab (by decide) e
   ·exact own_neP o2 hab (by decide) e
   ·rw [e,k1] at hab; cases hab
  have nb2:¬ (fun j => v.ownBlock = some j ∨ u.ownBlock = some j ∨ j = w1.heap.size) (w1.heap.size + 1):=fun e => by
   rcases e with e | e | e
   ·exact own_neP o1 k2 (by decide) e
   ·exact own_neP o2 k2 (by decide) e
   ·omega
  have at0:W.cell? ⟨ab,0,none⟩ = some (.int .i64 rr):=(cell_of_block hab 0).trans rfl
  have at1:W.cell? ⟨ab,1,none⟩ = some (.int .i64 cc):=(cell_of_block hab 1).trans rfl
  have cb2:W.cell? ⟨w1.heap.size + 1,0,none⟩ = some u:=(cell_of_block k2 0).trans rfl
  have HV1:=Hj (show ∀ j,v.ownBlock = some j → j < W.heap.size from fun j hj => (own_ge o1 j hj).2)
  have hmx1:rs.length + 1 ≤ maxLen:=by unfold maxLen; omega
  have hby1:(rs.length + 1) * 8 ≤ 140737488355328:=by omega
  have hmx2:cs.length + 1 ≤ maxLen:=by unfold maxLen; omega
  have hby2:(cs.length + 1) * 8 ≤ 140737488355328:=by omega
  have hone:∀ y:Int,∀ z ∈ [Value.int .i64 y],z.oneCell' = true:=by intro y z hz; simp at hz; subst hz; rfl
  have hHeld:(fun w' => Chg (fun j => v.ownBlock = some j ∨ u.ownBlock = some j ∨ j = w1.heap.size) W w') W.drew:=(Uh HS0).chg
  clear hI k1 k2 o1 o2 ap hab hrec hl hpl hn2 hrl hcl hle
  refine till_in (fun w' => Chg (fun j => v.ownBlock = some j ∨ u.ownBlock = some j ∨ j = w1.heap.size) W w') 11 (by kernel_rfl) (by rintro ⟨_,_,h⟩; exact h) (by kernel_rfl) ?_
  refine anyTill_take (i:=1) (v:=?_) rfl rfl (by kernel_rfl) (by kernel_rfl) (by kernel_rfl) (by kernel_rfl) (fun _ _ _ h => h) (Or.inl ⟨by rfl,?_⟩) (by assumption) ?_
  rotate_left 1
  ·intro W' hSw
   have q0:=Chg.cell hSw nab at0
   have q1:=Chg.cell hSw nab at1
   have q2:=Chg.cell hSw nb2 cb2
   clear hSw
   go_simp
   try with_reducible rfl
  refine anyTill_take (i:=2) (v:=?_) rfl rfl (by kernel_rfl) (by kernel_rfl) (by kernel_rfl) (by kernel_rfl) (fun _ _ _ h => h) (Or.inl ⟨by rfl,?_⟩) (by assumption) ?_
  rotate_left 1
  ·intro W' hSw
   have q0:=Chg.cell hSw nab at0
   have q1:=Chg.cell hSw nab at1
   have q2:=Chg.cell hSw nb2 cb2
   clear hSw
   go_simp
   try with_reducible rfl
  refine anyTill_take (i:=5) (v:=?_) rfl rfl (by kernel_rfl) (by kernel_rfl) (by kernel_rfl) (by kernel_rfl) (fun _ _ _ h => h) (Or.inl ⟨by rfl,?_⟩) (by assumption) ?_
  rotate_left 1
  ·intro W' hSw
   have q0:=Chg.cell hSw nab at0
   have q1:=Chg.cell hSw nab at1
   have q2:=Chg.cell hSw nb2 cb2
   clear hSw
   go_simp
   try with_reducible rfl
  refine anyTill_take (i:=6) (v:=?_) rfl rfl (by kernel_rfl) (by kernel_rfl) (by kernel_rfl) (by kernel_rfl) (fun _ _ _ h => h) (Or.inl ⟨by rfl,?_⟩) (by assumption) ?_
  rotate_left 1
  ·intro W' hSw
   have q0:=Chg.cell hSw nab at0
   have q1:=Chg.cell hSw nab at1
   have q2:=Chg.cell hSw nb2 cb2
   clear hSw
   go_simp
   try with_reducible rfl
  refine anyTill_take (i:=7) (v:=?_) rfl rfl (by kernel_rfl) (by kernel_rfl) (by kernel_rfl) (by kernel_rfl) (fun _ _ _ h => h) (Or.inl ⟨by rfl,?_⟩) (by assumption) ?_
  rotate_left 1
  ·intro W' hSw
   have q0:=Chg.cell hSw nab at0
   have q1:=Chg.cell hSw nab at1
   have q2:=Chg.cell hSw nb2 cb2
   clear hSw
   go_simp
   try with_reducible rfl
  clear hHeld nab nb2 at0 at1 cb2
  generalize W.drew = X0 at *
  refine anyTill_each (rs:=[0,3,8]) (by kernel_rfl) (by decide) ?_
  intro i hi K hK
  rcases (by simpa using hi:i = 0 ∨ i = 3 ∨ i = 8) with rfl | rfl | rfl
  ·clear hi
   refine wpOp_wp rfl (by rfl) ?_
   have bc1:=(Uh HS0).c1
   go_simp
   refine hK _ _ (fun _ => (Uh HS0).chg) ?_
   clear hK K bc1
   refine anyTill_each (rs:=[3,8]) (by kernel_rfl) (by decide) ?_
   intro i hi K hK
   rcases (by simpa using hi:i = 3 ∨ i = 8) with rfl | rfl
   ·clear hi
    refine wpOp_wp rfl (by rfl) ?_
    go_simp
    have HS2:=Hj ((Uh HS0).below ((Below.refl _ _).alloc (Nat.le_refl _) (Obj.cells #[Value.int IntKind.i64 rr] 3)))
    have He3:=Hj (show (X0.alloc (Obj.cells #[Value.int IntKind.i64 rr] 3)).heap[X0.heap.size]? = some (.cells #[.int .i64 rr] 3 (0,0)) ∧ W.heap.size ≤ X0.heap.size from ⟨alloc_block _ _,(Uh HS0).lw⟩)
    refine hK _ _ (fun _ => (Uh HS2).chg) ?_
    clear hK K
    generalize X0.alloc (Obj.cells #[Value.int IntKind.i64 rr] 3) = X2 at *
    refine anyTill_each (rs:=[4,8]) (by kernel_rfl) (by decide) ?_
    intro i hi K hK
    rcases (by simpa using hi:i = 4 ∨ i = 8) with rfl | rfl
    ·clear hi
     refine wpOp_wp rfl (by rfl) ?_
     refine wp_append_lies _ _ _ 22 rfl wf.heap.size 3 i64 (.int .i64 0) 1 8 Try.underlying22 (Uh HI).1 (Uh HI).2.1 (Uh HI).2.2.1 (Uh HI).2.2.2 rfl (by decide) v rs.length (valsI rs) rfl (Uh HS2).own1 ⟨X0.heap.size,0,none⟩ 1 1 [.int .i64 rr] rfl rfl (World.news_of_block (Uh He3).1) (hone _) (by decide) hmx1 hby1 (Uh HS2).le X2.heap.size rfl ?_
     intro g3 cp3 X3 hown hg hat hlt
     have HS3:=Hj ((Uh HS2).app1 hown hg hat)
     clear hown hg hat hlt
     refine hK _ _ (fun _ => (Uh HS3).chg) ?_
     clear hK K
     refine anyTill_each (rs:=[8]) (by kernel_rfl) (by decide) ?_
     intro i hi K hK
     obtain rfl:i = 8:=by simpa using hi
     clear hi
     refine wpOp_wp rfl (by rfl) ?_
     go_simp
     have HS4:=Hj ((Uh HS3).below ((Below.refl _ _).alloc (Nat.le_refl _) (Obj.cells #[Value.int IntKind.i64 cc] 3)))
     have He8:=Hj (show (X3.alloc (Obj.cells #[Value.int IntKind.i64 cc] 3)).heap[X3.heap.size]? = some (.cells #[.int .i64 cc] 3 (0,0)) ∧ W.heap.size ≤ X3.heap.size from ⟨alloc_block _ _,(Uh HS3).lw⟩)
     refine hK _ _ (fun _ => (Uh HS4).chg) ?_
     clear hK K
     generalize X3.alloc (Obj.cells #[Value.int IntKind.i64 cc] 3) = X4 at *
     refine anyTill_each (rs:=[9]) (by kernel_rfl) (by decide) ?_
     intro i hi K hK
     obtain rfl:i = 9:=by simpa using hi
     clear hi
     refine wpOp_wp rfl (by rfl) ?_
     refine wp_append_lies _ _ _ 22 rfl wf.heap.size 3 i64 (.int .i64 0) 1 8 Try.underlying22 (Uh HI).1 (Uh HI).2.1 (Uh HI).2.2.1 (Uh HI).2.2.2 rfl (by decide) u cs.length (valsI cs) rfl (Uh HS4).own2 ⟨X3.heap.size,0,none⟩ 1 1 [.int .i64 cc] rfl rfl (World.news_of_block (Uh He8).1) (hone _) (by decide) hmx2 hby2 (Uh HS4).le X4.heap.size rfl ?_
     intro g5 cp5 X5 hown hg hat hlt
     have HS5:=Hj ((Uh HS4).app2 hown hg hat)
     clear hown hg hat hlt
     refine hK _ _ (fun _ => (Uh HS5).chg) ?_
     clear hK K
     refine anyTill_each (rs:=[10]) (by kernel_rfl) (by decide) ?_
     intro i hi K hK
     obtain rfl:i = 10:=by simpa using hi
     clear hi
     refine wpOp_wp rfl (by rfl) ?_
     have bc6:=(Uh HS5).c1
     have bf6:=(Uh HS5).f1
     go_simp
     refine hK _ _ (fun _ => (Uh HS5).chg.trans (Chg.of_set _ _ _ _ (.inr (.inr rfl)))) ?_
     clear hK K bc6 bf6
     refine anyTill_each (rs:=[11]) (by kernel_rfl) (by decide) ?_
     intro i hi K hK
     obtain rfl:i = 11:=by simpa using hi
     clear hi
     refine wpOp_wp rfl (by rfl) ?_
     have bc7:=(Uh HS5).c2 (.slice (some ⟨g3,0,none⟩) (rs.length + 1) cp3) (show w1.heap.size ≠ w1.heap.size + 1 by omega)
     have bf7:=(Uh HS5).f2 (.slice (some ⟨g3,0,none⟩) (rs.length + 1) cp3) (show w1.heap.size ≠ w1.heap.size + 1 by omega)
     go_simp
     refine hK _ _ (fun h => absurd rfl h) ?_
     clear hK K bc7 bf7
     refine anyTill_done (by kernel_rfl) ?_
     exact Uh HFN _ _ _ (Uh HS5)
    ·clear hi
     refine wpOp_wp rfl (by rfl) ?_
     go_simp
     have HS8:=Hj ((Uh HS2).below ((Below.refl _ _).alloc (Nat.le_refl _) (Obj.cells #[Value.int IntKind.i64 cc] 3)))
     have He8:=Hj (show (X2.alloc (Obj.cells #[Value.int IntKind.i64 cc] 3)).heap[X2.heap.size]? = some (.cells #[.int .i64 cc] 3 (0,0)) ∧ W.heap.size ≤ X2.heap.size from ⟨alloc_block _ _,(Uh HS2).lw⟩)
     replace He3:=Hj (And.intro ((((Below.refl _ _).alloc (Nat.le_refl _) (Obj.cells #[Value.int IntKind.i64 cc] 3)).block _ (Array.getElem?_eq_some_iff.1 (Uh He3).1).1).trans (Uh He3).1) (Uh He3).2)
     refine hK _ _ (fun _ => (Uh HS8).chg) ?_
     clear hK K
     generalize X2.alloc (Obj.cells #[Value.int IntKind.i64 cc] 3) = X8 at *
     refine anyTill_each (rs:=[4]) (by kernel_rfl) (by decide) ?_
     intro i hi K hK
     obtain rfl:i = 4:=by simpa using hi
     clear hi
     refine wpOp_wp rfl (by rfl) ?_
     refine wp_append_lies _ _ _ 22 rfl wf.heap.size 3 i64 (.int .i64 0) 1 8 Try.underlying22 (Uh HI).1 (Uh HI).2.1 (Uh HI).2.2.1 (Uh HI).2.2.2 rfl (by decide) v rs.length (valsI rs) rfl (Uh HS8).own1 ⟨X0.heap.size,0,none⟩ 1 1 [.int .i64 rr] rfl rfl (World.news_of_block (Uh He3).1) (hone _) (by decide) hmx1 hby1 (Uh HS8).le X8.heap.size rfl ?_
     intro g9 cp9 X9 hown hg hat hlt
     have HS9:=Hj ((Uh HS8).app1 hown hg hat)
     replace He8:=Hj (And.intro ((hg.block _ (Array.getElem?_eq_some_iff.1 (Uh He8).1).1 (fun e => by have:=Uh HV1 _ e.symm; have:=(Uh He8).2; omega)).trans (Uh He8).1) (Uh He8).2)
     clear hown hg hat hlt
     refine hK _ _ (fun _ => (Uh HS9).chg) ?_
     clear hK K
     refine anyTill_each (rs:=[9]) (by kernel_rfl) (by decide) ?_
     intro i hi K hK
     obtain rfl:i = 9:=by simpa using hi
     clear hi
     refine wpOp_wp rfl (by rfl) ?_
     refine wp_append_lies _ _ _ 22 rfl wf.heap.size 3 i64 (.int .i64 0) 1 8 Try.underlying22 (Uh HI).1 (Uh HI).2.1 (Uh HI).2.2.1 (Uh HI).2.2.2 rfl (by decide) u cs.length (valsI cs) rfl (Uh HS9).own2 ⟨X2.heap.size,0,none⟩ 1 1 [.int .i64 cc] rfl rfl (World.news_of_block (Uh He8).1) (hone _) (by decide) hmx2 hby2 (Uh HS9).le X9.heap.size rfl ?_
     intro g10 cp10 X10 hown hg hat hlt
     have HS10:=Hj ((Uh HS9).app2 hown hg hat)
     clear hown hg hat hlt
     refine hK _ _ (fun _ => (Uh HS10).chg) ?_
     clear hK K
     refine anyTill_each (rs:=[10]) (by kernel_rfl) (by decide) ?_
     intro i hi K hK
     obtain rfl:i = 10:=by simpa using hi
     clear hi
     refine wpOp_wp rfl (by rfl) ?_
     have bc11:=(Uh HS10).c1
     have bf11:=(Uh HS10).f1
     go_simp
     refine hK _ _ (fun _ => (Uh HS10).chg.trans (Chg.of_set _ _ _ _ (.inr (.inr rfl)))) ?_
     clear hK K bc11 bf11
     refine anyTill_each (rs:=[11]) (by kernel_rfl) (by decide) ?_
     intro i hi K hK
     obtain rfl:i = 11:=by simpa using hi
     clear hi
     refine wpOp_wp rfl (by rfl) ?_
     have bc12:=(Uh HS10).c2 (.slice (some ⟨g9,0,none⟩) (rs.length + 1) cp9) (show w1.heap.size ≠ w1.heap.size + 1 by omega)
     have bf12:=(Uh HS10).f2 (.slice (some ⟨g9,0,none⟩) (rs.length + 1) cp9) (show w1.heap.size ≠ w1.heap.size + 1 by omega)
     go_simp
     refine hK _ _ (fun h => absurd rfl h) ?_
     clear hK K bc12 bf12
     refine anyTill_done (by kernel_rfl) ?_
     exact Uh HFN _ _ _ (Uh HS10)
   ·clear hi
    refine wpOp_wp rfl (by rfl) ?_
    go_simp
    have HS13:=Hj ((Uh HS0).below ((Below.refl _ _).alloc (Nat.le_refl _) (Obj.cells #[Value.int IntKind.i64 cc] 3)))
    have He8:=Hj (show (X0.alloc (Obj.cells #[Value.int IntKind.i64 cc] 3)).heap[X0.heap.size]? = some (.cells #[.int .i64 cc] 3 (0,0)) ∧ W.heap.size ≤ X0.heap.size from ⟨alloc_block _ _,(Uh HS0).lw⟩)
    refine hK _ _ (fun _ => (Uh HS13).chg) ?_
    clear hK K
    generalize X0.alloc (Obj.cells #[Value.int IntKind.i64 cc] 3) = X13 at *
    refine anyTill_each (rs:=[3]) (by kernel_rfl) (by decide) ?_
    intro i hi K hK
    obtain rfl:i = 3:=by simpa using hi
    clear hi
    refine wpOp_wp rfl (by rfl) ?_
    go_simp
    have HS14:=Hj ((Uh HS13).below ((Below.refl _ _).alloc (Nat.le_refl _) (Obj.cells #[Value.int IntKind.i64 rr] 3)))
    have He3:=Hj (show (X13.alloc (Obj.cells #[Value.int IntKind.i64 rr] 3)).heap[X13.heap.size]? = some (.cells #[.int .i64 rr] 3 (0,0)) ∧ W.heap.size ≤ X13.heap.size from ⟨alloc_block _ _,(Uh HS13).lw⟩)
    replace He8:=Hj (And.intro ((((Below.refl _ _).alloc (Nat.le_refl _) (Obj.cells #[Value.int IntKind.i64 rr] 3)).block _ (Array.getElem?_eq_some_iff.1 (Uh He8).1).1).trans (Uh He8).1) (Uh He8).2)
    refine hK _ _ (fun _ => (Uh HS14).chg) ?_
    clear hK K
    generalize X13.alloc (Obj.cells #[Value.int IntKind.i64 rr] 3) = X14 at *
    refine anyTill_each (rs:=[4]) (by kernel_rfl) (by decide) ?_
    intro i hi K hK
    obtain rfl:i = 4:=by simpa using hi
    clear hi
    refine wpOp_wp rfl (by rfl) ?_
    refine wp_append_lies _ _ _ 22 rfl wf.heap.size 3 i64 (.int .i64 0) 1 8 Try.underlying22 (Uh HI).1 (Uh HI).2.1 (Uh HI).2.2.1 (Uh HI).2.2.2 rfl (by decide) v rs.length (valsI rs) rfl (Uh HS14).own1 ⟨X13.heap.size,0,none⟩ 1 1 [.int .i64 rr] rfl rfl (World.news_of_block (Uh He3).1) (hone _) (by decide) hmx1 hby1 (Uh HS14).le X14.heap.size rfl ?_
    intro g15 cp15 X15 hown hg hat hlt
    have HS15:=Hj ((Uh HS14).app1 hown hg hat)
    replace He8:=Hj (And.intro ((hg.block _ (Array.getElem?_eq_some_iff.1 (Uh He8).1).1 (fun e => by have:=Uh HV1 _ e.symm; have:=(Uh He8).2; omega)).trans (Uh He8).1) (Uh He8).2)
    clear hown hg hat hlt
    refine hK _ _ (fun _ => (Uh HS15).chg) ?_
    clear hK K
    refine anyTill_each (rs:=[9]) (by kernel_rfl) (by decide) ?_
    intro i hi K hK
    obtain rfl:i = 9:=by simpa using hi
    clear hi
    refine wpOp_wp rfl (by rfl) ?_
    refine wp_append_lies _ _ _ 22 rfl wf.heap.size 3 i64 (.int .i64 0) 1 8 Try.underlying22 (Uh HI).1 (Uh HI).2.1 (Uh HI).2.2.1 (Uh HI).2.2.2 rfl (by decide) u cs.length (valsI cs) rfl (Uh HS15).own2 ⟨X0.heap.size,0,none⟩ 1 1 [.int .i64 cc] rfl rfl (World.news_of_block (Uh He8).1) (hone _) (by decide) hmx2 hby2 (Uh HS15).le X15.heap.size rfl ?_
    intro g16 cp16 X16 hown hg hat hlt
    have HS16:=Hj ((Uh HS15).app2 hown hg hat)
    clear hown hg hat hlt
    refine hK _ _ (fun _ => (Uh HS16).chg) ?_
    clear hK K
    refine anyTill_each (rs:=[10]) (by kernel_rfl) (by decide) ?_
    intro i hi K hK
    obtain rfl:i = 10:=by simpa using hi
    clear hi
    refine wpOp_wp rfl (by rfl) ?_
    have bc17:=(Uh HS16).c1
    have bf17:=(Uh HS16).f1
    go_simp
    refine hK _ _ (fun _ => (Uh HS16).chg.trans (Chg.of_set _ _ _ _ (.inr (.inr rfl)))) ?_
    clear hK K bc17 bf17
    refine anyTill_each (rs:=[11]) (by kernel_rfl) (by decide) ?_
    intro i hi K hK
    obtain rfl:i = 11:=by simpa using hi
    clear hi
    refine wpOp_wp rfl (by rfl) ?_
    have bc18:=(Uh HS16).c2 (.slice (some ⟨g15,0,none⟩) (rs.length + 1) cp15) (show w1.heap.size ≠ w1.heap.size + 1 by omega)
    have bf18:=(Uh HS16).f2 (.slice (some ⟨g15,0,none⟩) (rs.length + 1) cp15) (show w1.heap.size ≠ w1.heap.size + 1 by omega)
    go_simp
    refine hK _ _ (fun h => absurd rfl h) ?_
    clear hK K bc18 bf18
    refine anyTill_done (by kernel_rfl) ?_
    exact Uh HFN _ _ _ (Uh HS16)
  ·clear hi
   refine wpOp_wp rfl (by rfl) ?_
   go_simp
   have HS19:=Hj ((Uh HS0).below ((Below.refl _ _).alloc (Nat.le_refl _) (Obj.cells #[Value.int IntKind.i64 rr] 3)))
   have He3:=Hj (show (X0.alloc (Obj.cells #[Value.int IntKind.i64 rr] 3)).heap[X0.heap.size]? = some (.cells #[.int .i64 rr] 3 (0,0)) ∧ W.heap.size ≤ X0.heap.size from ⟨alloc_block _ _,(Uh HS0).lw⟩)
   refine hK _ _ (fun _ => (Uh HS19).chg) ?_
   clear hK K
   generalize X0.alloc (Obj.cells #[Value.int IntKind.i64 rr] 3) = X19 at *
   refine anyTill_each (rs:=[0,8]) (by kernel_rfl) (by decide) ?_
   intro i hi K hK
   rcases (by simpa using hi:i = 0 ∨ i = 8) with rfl | rfl
   ·clear hi
    refine wpOp_wp rfl (by rfl) ?_
    have bc20:=(Uh HS19).c1
    go_simp
    refine hK _ _ (fun _ => (Uh HS19).chg) ?_
    clear hK K bc20
    refine anyTill_each (rs:=[4,8]) (by kernel_rfl) (by decide) ?_
    intro i hi K hK
    rcases (by simpa using hi:i = 4 ∨ i = 8) with rfl | rfl
    ·clear hi
     refine wpOp_wp rfl (by rfl) ?_
     refine wp_append_lies _ _ _ 22 rfl wf.heap.size 3 i64 (.int .i64 0) 1 8 Try.underlying22 (Uh HI).1 (Uh HI).2.1 (Uh HI).2.2.1 (Uh HI).2.2.2 rfl (by decide) v rs.length (valsI rs) rfl (Uh HS19).own1 ⟨X0.heap.size,0,none⟩ 1 1 [.int .i64 rr] rfl rfl (World.news_of_block (Uh He3).1) (hone _) (by decide) hmx1 hby1 (Uh HS19).le X19.heap.size rfl ?_
     intro g21 cp21 X21 hown hg hat hlt
     have HS21:=Hj ((Uh HS19).app1 hown hg hat)
     clear hown hg hat hlt
     refine hK _ _ (fun _ => (Uh HS21).chg) ?_
     clear hK K
     refine anyTill_each (rs:=[8]) (by kernel_rfl) (by decide) ?_
     intro i hi K hK
     obtain rfl:i = 8:=by simpa using hi
     clear hi
     refine wpOp_wp rfl (by rfl) ?_
     go_simp
     have HS22:=Hj ((Uh HS21).below ((Below.refl _ _).alloc (Nat.le_refl _) (Obj.cells #[Value.int IntKind.i64 cc] 3)))
     have He8:=Hj (show (X21.alloc (Obj.cells #[Value.int IntKind.i64 cc] 3)).heap[X21.heap.size]? = some (.cells #[.int .i64 cc] 3 (0,0)) ∧ W.heap.size ≤ X21.heap.size from ⟨alloc_block _ _,(Uh HS21).lw⟩)
     refine hK _ _ (fun _ => (Uh HS22).chg) ?_
     clear hK K
     generalize X21.alloc (Obj.cells #[Value.int IntKind.i64 cc] 3) = X22 at *
     refine anyTill_each (rs:=[9]) (by kernel_rfl) (by decide) ?_
     intro i hi K hK
     obtain rfl:i = 9:=by simpa using hi
     clear hi
     refine wpOp_wp rfl (by rfl) ?_
     refine wp_append_lies _ _ _ 22 rfl wf.heap.size 3 i64 (.int .i64 0) 1 8 Try.underlying22 (Uh HI).1 (Uh HI).2.1 (Uh HI).2.2.1 (Uh HI).2.2.2 rfl (by decide) u cs.length (valsI cs) rfl (Uh HS22).own2 ⟨X21.heap.size,0,none⟩ 1 1 [.int .i64 cc] rfl rfl (World.news_of_block (Uh He8).1) (hone _) (by decide) hmx2 hby2 (Uh HS22).le X22.heap.size rfl ?_
     intro g23 cp23 X23 hown hg hat hlt
     have HS23:=Hj ((Uh HS22).app2 hown hg hat)
     clear hown hg hat hlt
     refine hK _ _ (fun _ => (Uh HS23).chg) ?_
     clear hK K
     refine anyTill_each (rs:=[10]) (by kernel_rfl) (by decide) ?_
     intro i hi K hK
     obtain rfl:i = 10:=by simpa using hi
     clear hi
     refine wpOp_wp rfl (by rfl) ?_
     have bc24:=(Uh HS23).c1
     have bf24:=(Uh HS23).f1
     go_simp
     refine hK _ _ (fun _ => (Uh HS23).chg.trans (Chg.of_set _ _ _ _ (.inr (.inr rfl)))) ?_
     clear hK K bc24 bf24
     refine anyTill_each (rs:=[11]) (by kernel_rfl) (by decide) ?_
     intro i hi K hK
     obtain rfl:i = 11:=by simpa using hi
     clear hi
     refine wpOp_wp rfl (by rfl) ?_
     have bc25:=(Uh HS23).c2 (.slice (some ⟨g21,0,none⟩) (rs.length + 1) cp21) (show w1.heap.size ≠ w1.heap.size + 1 by omega)
     have bf25:=(Uh HS23).f2 (.slice (some ⟨g21,0,none⟩) (rs.length + 1) cp21) (show w1.heap.size ≠ w1.heap.size + 1 by omega)
     go_simp
     refine hK _ _ (fun h => absurd rfl h) ?_
     clear hK K bc25 bf25
     refine anyTill_done (by kernel_rfl) ?_
     exact Uh HFN _ _ _ (Uh HS23)
    ·clear hi
     refine wpOp_wp rfl (by rfl) ?_
     go_simp
     have HS26:=Hj ((Uh HS19).below ((Below.refl _ _).alloc (Nat.le_refl _) (Obj.cells #[Value.int IntKind.i64 cc] 3)))
     have He8:=Hj (show (X19.alloc (Obj.cells #[Value.int IntKind.i64 cc] 3)).heap[X19.heap.size]? = some (.cells #[.int .i64 cc] 3 (0,0)) ∧ W.heap.size ≤ X19.heap.size from ⟨alloc_block _ _,(Uh HS19).lw⟩)
     replace He3:=Hj (And.intro ((((Below.refl _ _).alloc (Nat.le_refl _) (Obj.cells #[Value.int IntKind.i64 cc] 3)).block _ (Array.getElem?_eq_some_iff.1 (Uh He3).1).1).trans (Uh He3).1) (Uh He3).2)
     refine hK _ _ (fun _ => (Uh HS26).chg) ?_
     clear hK K
     generalize X19.alloc (Obj.cells #[Value.int IntKind.i64 cc] 3) = X26 at *
     refine anyTill_each (rs:=[4]) (by kernel_rfl) (by decide) ?_
     intro i hi K hK
     obtain rfl:i = 4:=by simpa using hi
     clear hi
     refine wpOp_wp rfl (by rfl) ?_
     refine wp_append_lies _ _ _ 22 rfl wf.heap.size 3 i64 (.int .i64 0) 1 8 Try.underlying22 (Uh HI).1 (Uh HI).2.1 (Uh HI).2.2.1 (Uh HI).2.2.2 rfl (by decide) v rs.length (valsI rs) rfl (Uh HS26).own1 ⟨X0.heap.size,0,none⟩ 1 1 [.int .i64 rr] rfl rfl (World.news_of_block (Uh He3).1) (hone _) (by decide) hmx1 hby1 (Uh HS26).le X26.heap.size rfl ?_
     intro g27 cp27 X27 hown hg hat hlt
     have HS27:=Hj ((Uh HS26).app1 hown hg hat)
     replace He8:=Hj (And.intro ((hg.block _ (Array.getElem?_eq_some_iff.1 (Uh He8).1).1 (fun e => by have:=Uh HV1 _ e.symm; have:=(Uh He8).2; omega)).trans (Uh He8).1) (Uh He8).2)
     clear hown hg hat hlt
     refine hK _ _ (fun _ => (Uh HS27).chg) ?_
     clear hK K
     refine anyTill_each (rs:=[9]) (by kernel_rfl) (by decide) ?_
     intro i hi K hK
     obtain rfl:i = 9:=by simpa using hi
     clear hi
     refine wpOp_wp rfl (by rfl) ?_
     refine wp_append_lies _ _ _ 22 rfl wf.heap.size 3 i64 (.int .i64 0) 1 8 Try.underlying22 (Uh HI).1 (Uh HI).2.1 (Uh HI).2.2.1 (Uh HI).2.2.2 rfl (by decide) u cs.length (valsI cs) rfl (Uh HS27).own2 ⟨X19.heap.size,0,none⟩ 1 1 [.int .i64 cc] rfl rfl (World.news_of_block (Uh He8).1) (hone _) (by decide) hmx2 hby2 (Uh HS27).le X27.heap.size rfl ?_
     intro g28 cp28 X28 hown hg hat hlt
     have HS28:=Hj ((Uh HS27).app2 hown hg hat)
     clear hown hg hat hlt
     refine hK _ _ (fun _ => (Uh HS28).chg) ?_
     clear hK K
     refine anyTill_each (rs:=[10]) (by kernel_rfl) (by decide) ?_
     intro i hi K hK
     obtain rfl:i = 10:=by simpa using hi
     clear hi
     refine wpOp_wp rfl (by rfl) ?_
     have bc29:=(Uh HS28).c1
     have bf29:=(Uh HS28).f1
     go_simp
     refine hK _ _ (fun _ => (Uh HS28).chg.trans (Chg.of_set _ _ _ _ (.inr (.inr rfl)))) ?_
     clear hK K bc29 bf29
     refine anyTill_each (rs:=[11]) (by kernel_rfl) (by decide) ?_
     intro i hi K hK
     obtain rfl:i = 11:=by simpa using hi
     clear hi
     refine wpOp_wp rfl (by rfl) ?_
     have bc30:=(Uh HS28).c2 (.slice (some ⟨g27,0,none⟩) (rs.length + 1) cp27) (show w1.heap.size ≠ w1.heap.size + 1 by omega)
     have bf30:=(Uh HS28).f2 (.slice (some ⟨g27,0,none⟩) (rs.length + 1) cp27) (show w1.heap.size ≠ w1.heap.size + 1 by omega)
     go_simp
     refine hK _ _ (fun h => absurd rfl h) ?_
     clear hK K bc30 bf30
     refine anyTill_done (by kernel_rfl) ?_
     exact Uh HFN _ _ _ (Uh HS28)
   ·clear hi
    refine wpOp_wp rfl (by rfl) ?_
    go_simp
    have HS31:=Hj ((Uh HS19).below ((Below.refl _ _).alloc (Nat.le_refl _) (Obj.cells #[Value.int IntKind.i64 cc] 3)))
    have He8:=Hj (show (X19.alloc (Obj.cells #[Value.int IntKind.i64 cc] 3)).heap[X19.heap.size]? = some (.cells #[.int .i64 cc] 3 (0,0)) ∧ W.heap.size ≤ X19.heap.size from ⟨alloc_block _ _,(Uh HS19).lw⟩)
    replace He3:=Hj (And.intro ((((Below.refl _ _).alloc (Nat.le_refl _) (Obj.cells #[Value.int IntKind.i64 cc] 3)).block _ (Array.getElem?_eq_some_iff.1 (Uh He3).1).1).trans (Uh He3).1) (Uh He3).2)
    refine hK _ _ (fun _ => (Uh HS31).chg) ?_
    clear hK K
    generalize X19.alloc (Obj.cells #[Value.int IntKind.i64 cc] 3) = X31 at *
    refine anyTill_each (rs:=[0]) (by kernel_rfl) (by decide) ?_
    intro i hi K hK
    obtain rfl:i = 0:=by simpa using hi
    clear hi
    refine wpOp_wp rfl (by rfl) ?_
    have bc32:=(Uh HS31).c1
    go_simp
    refine hK _ _ (fun _ => (Uh HS31).chg) ?_
    clear hK K bc32
    refine anyTill_each (rs:=[4]) (by kernel_rfl) (by decide) ?_
    intro i hi K hK
    obtain rfl:i = 4:=by simpa using hi
    clear hi
    refine wpOp_wp rfl (by rfl) ?_
    refine wp_append_lies _ _ _ 22 rfl wf.heap.size 3 i64 (.int .i64 0) 1 8 Try.underlying22 (Uh HI).1 (Uh HI).2.1 (Uh HI).2.2.1 (Uh HI).2.2.2 rfl (by decide) v rs.length (valsI rs) rfl (Uh HS31).own1 ⟨X0.heap.size,0,none⟩ 1 1 [.int .i64 rr] rfl rfl (World.news_of_block (Uh He3).1) (hone _) (by decide) hmx1 hby1 (Uh HS31).le X31.heap.size rfl ?_
    intro g33 cp33 X33 hown hg hat hlt
    have HS33:=Hj ((Uh HS31).app1 hown hg hat)
    replace He8:=Hj (And.intro ((hg.block _ (Array.getElem?_eq_some_iff.1 (Uh He8).1).1 (fun e => by have:=Uh HV1 _ e.symm; have:=(Uh He8).2; omega)).trans (Uh He8).1) (Uh He8).2)
    clear hown hg hat hlt
    refine hK _ _ (fun _ => (Uh HS33).chg) ?_
    clear hK K
    refine anyTill_each (rs:=[9]) (by kernel_rfl) (by decide) ?_
    intro i hi K hK
    obtain rfl:i = 9:=by simpa using hi
    clear hi
    refine wpOp_wp rfl (by rfl) ?_
    refine wp_append_lies _ _ _ 22 rfl wf.heap.size 3 i64 (.int .i64 0) 1 8 Try.underlying22 (Uh HI).1 (Uh HI).2.1 (Uh HI).2.2.1 (Uh HI).2.2.2 rfl (by decide) u cs.length (valsI cs) rfl (Uh HS33).own2 ⟨X19.heap.size,0,none⟩ 1 1 [.int .i64 cc] rfl rfl (World.news_of_block (Uh He8).1) (hone _) (by decide) hmx2 hby2 (Uh HS33).le X33.heap.size rfl ?_
    intro g34 cp34 X34 hown hg hat hlt
    have HS34:=Hj ((Uh HS33).app2 hown hg hat)
    clear hown hg hat hlt
    refine hK _ _ (fun _ => (Uh HS34).chg) ?_
    clear hK K
    refine anyTill_each (rs:=[10]) (by kernel_rfl) (by decide) ?_
    intro i hi K hK
    obtain rfl:i = 10:=by simpa using hi
    clear hi
    refine wpOp_wp rfl (by rfl) ?_
    have bc35:=(Uh HS34).c1
    have bf35:=(Uh HS34).f1
    go_simp
    refine hK _ _ (fun _ => (Uh HS34).chg.trans (Chg.of_set _ _ _ _ (.inr (.inr rfl)))) ?_
    clear hK K bc35 bf35
    refine anyTill_each (rs:=[11]) (by kernel_rfl) (by decide) ?_
    intro i hi K hK
    obtain rfl:i = 11:=by simpa using hi
    clear hi
    refine wpOp_wp rfl (by rfl) ?_
    have bc36:=(Uh HS34).c2 (.slice (some ⟨g33,0,none⟩) (rs.length + 1) cp33) (show w1.heap.size ≠ w1.heap.size + 1 by omega)
    have bf36:=(Uh HS34).f2 (.slice (some ⟨g33,0,none⟩) (rs.length + 1) cp33) (show w1.heap.size ≠ w1.heap.size + 1 by omega)
    go_simp
    refine hK _ _ (fun h => absurd rfl h) ?_
    clear hK K bc36 bf36
    refine anyTill_done (by kernel_rfl) ?_
    exact Uh HFN _ _ _ (Uh HS34)
  ·clear hi
   refine wpOp_wp rfl (by rfl) ?_
   go_simp
   have HS37:=Hj ((Uh HS0).below ((Below.refl _ _).alloc (Nat.le_refl _) (Obj.cells #[Value.int IntKind.i64 cc] 3)))
   have He8:=Hj (show (X0.alloc (Obj.cells #[Value.int IntKind.i64 cc] 3)).heap[X0.heap.size]? = some (.cells #[.int .i64 cc] 3 (0,0)) ∧ W.heap.size ≤ X0.heap.size from ⟨alloc_block _ _,(Uh HS0).lw⟩)
   refine hK _ _ (fun _ => (Uh HS37).chg) ?_
   clear hK K
   generalize X0.alloc (Obj.cells #[Value.int IntKind.i64 cc] 3) = X37 at *
   refine anyTill_each (rs:=[0,3]) (by kernel_rfl) (by decide) ?_
   intro i hi K hK
   rcases (by simpa using hi:i = 0 ∨ i = 3) with rfl | rfl
   ·clear hi
    refine wpOp_wp rfl (by rfl) ?_
    have bc38:=(Uh HS37).c1
    go_simp
    refine hK _ _ (fun _ => (Uh HS37).chg) ?_
    clear hK K bc38
    refine anyTill_each (rs:=[3]) (by kernel_rfl) (by decide) ?_
    intro i hi K hK
    obtain rfl:i = 3:=by simpa using hi
    clear hi
    refine wpOp_wp rfl (by rfl) ?_
    go_simp
    have HS39:=Hj ((Uh HS37).below ((Below.refl _ _).alloc (Nat.le_refl _) (Obj.cells #[Value.int IntKind.i64 rr] 3)))
    have He3:=Hj (show (X37.alloc (Obj.cells #[Value.int IntKind.i64 rr] 3)).heap[X37.heap.size]? = some (.cells #[.int .i64 rr] 3 (0,0)) ∧ W.heap.size ≤ X37.heap.size from ⟨alloc_block _ _,(Uh HS37).lw⟩)
    replace He8:=Hj (And.intro ((((Below.refl _ _).alloc (Nat.le_refl _) (Obj.cells #[Value.int IntKind.i64 rr] 3)).block _ (Array.getElem?_eq_some_iff.1 (Uh He8).1).1).trans (Uh He8).1) (Uh He8).2)
    refine hK _ _ (fun _ => (Uh HS39).chg) ?_
    clear hK K
    generalize X37.alloc (Obj.cells #[Value.int IntKind.i64 rr] 3) = X39 at *
    refine anyTill_each (rs:=[4]) (by kernel_rfl) (by decide) ?_
    intro i hi K hK
    obtain rfl:i = 4:=by simpa using hi
    clear hi
    refine wpOp_wp rfl (by rfl) ?_
    refine wp_append_lies _ _ _ 22 rfl wf.heap.size 3 i64 (.int .i64 0) 1 8 Try.underlying22 (Uh HI).1 (Uh HI).2.1 (Uh HI).2.2.1 (Uh HI).2.2.2 rfl (by decide) v rs.length (valsI rs) rfl (Uh HS39).own1 ⟨X37.heap.size,0,none⟩ 1 1 [.int .i64 rr] rfl rfl (World.news_of_block (Uh He3).1) (hone _) (by decide) hmx1 hby1 (Uh HS39).le X39.heap.size rfl ?_
    intro g40 cp40 X40 hown hg hat hlt
    have HS40:=Hj ((Uh HS39).app1 hown hg hat)
    replace He8:=Hj (And.intro ((hg.block _ (Array.getElem?_eq_some_iff.1 (Uh He8).1).1 (fun e => by have:=Uh HV1 _ e.symm; have:=(Uh He8).2; omega)).trans (Uh He8).1) (Uh He8).2)
    clear hown hg hat hlt
    refine hK _ _ (fun _ => (Uh HS40).chg) ?_
    clear hK K
    refine anyTill_each (rs:=[9]) (by kernel_rfl) (by decide) ?_
    intro i hi K hK
    obtain rfl:i = 9:=by simpa using hi
    clear hi
    refine wpOp_wp rfl (by rfl) ?_
    refine wp_append_lies _ _ _ 22 rfl wf.heap.size 3 i64 (.int .i64 0) 1 8 Try.underlying22 (Uh HI).1 (Uh HI).2.1 (Uh HI).2.2.1 (Uh HI).2.2.2 rfl (by decide) u cs.length (valsI cs) rfl (Uh HS40).own2 ⟨X0.heap.size,0,none⟩ 1 1 [.int .i64 cc] rfl rfl (World.news_of_block (Uh He8).1) (hone _) (by decide) hmx2 hby2 (Uh HS40).le X40.heap.size rfl ?_
    intro g41 cp41 X41 hown hg hat hlt
    have HS41:=Hj ((Uh HS40).app2 hown hg hat)
    clear hown hg hat hlt
    refine hK _ _ (fun _ => (Uh HS41).chg) ?_
    clear hK K
    refine anyTill_each (rs:=[10]) (by kernel_rfl) (by decide) ?_
    intro i hi K hK
    obtain rfl:i = 10:=by simpa using hi
    clear hi
    refine wpOp_wp rfl (by rfl) ?_
    have bc42:=(Uh HS41).c1
    have bf42:=(Uh HS41).f1
    go_simp
    refine hK _ _ (fun _ => (Uh HS41).chg.trans (Chg.of_set _ _ _ _ (.inr (.inr rfl)))) ?_
    clear hK K bc42 bf42
    refine anyTill_each (rs:=[11]) (by kernel_rfl) (by decide) ?_
    intro i hi K hK
    obtain rfl:i = 11:=by simpa using hi
    clear hi
    refine wpOp_wp rfl (by rfl) ?_
    have bc43:=(Uh HS41).c2 (.slice (some ⟨g40,0,none⟩) (rs.length + 1) cp40) (show w1.heap.size ≠ w1.heap.size + 1 by omega)
    have bf43:=(Uh HS41).f2 (.slice (some ⟨g40,0,none⟩) (rs.length + 1) cp40) (show w1.heap.size ≠ w1.heap.size + 1 by omega)
    go_simp
    refine hK _ _ (fun h => absurd rfl h) ?_
    clear hK K bc43 bf43
    refine anyTill_done (by kernel_rfl) ?_
    exact Uh HFN _ _ _ (Uh HS41)
   ·clear hi
    refine wpOp_wp rfl (by rfl) ?_
    go_simp
    have HS44:=Hj ((Uh HS37).below ((Below.refl _ _).alloc (Nat.le_refl _) (Obj.cells #[Value.int IntKind.i64 rr] 3)))
    have He3:=Hj (show (X37.alloc (Obj.cells #[Value.int IntKind.i64 rr] 3)).heap[X37.heap.size]? = some (.cells #[.int .i64 rr] 3 (0,0)) ∧ W.heap.size ≤ X37.heap.size from ⟨alloc_block _ _,(Uh HS37).lw⟩)
    replace He8:=Hj (And.intro ((((Below.refl _ _).alloc (Nat.le_refl _) (Obj.cells #[Value.int IntKind.i64 rr] 3)).block _ (Array.getElem?_eq_some_iff.1 (Uh He8).1).1).trans (Uh He8).1) (Uh He8).2)
    refine hK _ _ (fun _ => (Uh HS44).chg) ?_
    clear hK K
    generalize X37.alloc (Obj.cells #[Value.int IntKind.i64 rr] 3) = X44 at *
    refine anyTill_each (rs:=[0]) (by kernel_rfl) (by decide) ?_
    intro i hi K hK
    obtain rfl:i = 0:=by simpa using hi
    clear hi
    refine wpOp_wp rfl (by rfl) ?_
    have bc45:=(Uh HS44).c1
    go_simp
    refine hK _ _ (fun _ => (Uh HS44).chg) ?_
    clear hK K bc45
    refine anyTill_each (rs:=[4]) (by kernel_rfl) (by decide) ?_
    intro i hi K hK
    obtain rfl:i = 4:=by simpa using hi
    clear hi
    refine wpOp_wp rfl (by rfl) ?_
    refine wp_append_lies _ _ _ 22 rfl wf.heap.size 3 i64 (.int .i64 0) 1 8 Try.underlying22 (Uh HI).1 (Uh HI).2.1 (Uh HI).2.2.1 (Uh HI).2.2.2 rfl (by decide) v rs.length (valsI rs) rfl (Uh HS44).own1 ⟨X37.heap.size,0,none⟩ 1 1 [.int .i64 rr] rfl rfl (World.news_of_block (Uh He3).1) (hone _) (by decide) hmx1 hby1 (Uh HS44).le X44.heap.size rfl ?_
    intro g46 cp46 X46 hown hg hat hlt
    have HS46:=Hj ((Uh HS44).app1 hown hg hat)
    replace He8:=Hj (And.intro ((hg.block _ (Array.getElem?_eq_some_iff.1 (Uh He8).1).1 (fun e => by have:=Uh HV1 _ e.symm; have:=(Uh He8).2; omega)).trans (Uh He8).1) (Uh He8).2)
    clear hown hg hat hlt
    refine hK _ _ (fun _ => (Uh HS46).chg) ?_
    clear hK K
    refine anyTill_each (rs:=[9]) (by kernel_rfl) (by decide) ?_
    intro i hi K hK
    obtain rfl:i = 9:=by simpa using hi
    clear hi
    refine wpOp_wp rfl (by rfl) ?_
    refine wp_append_lies _ _ _ 22 rfl wf.heap.size 3 i64 (.int .i64 0) 1 8 Try.underlying22 (Uh HI).1 (Uh HI).2.1 (Uh HI).2.2.1 (Uh HI).2.2.2 rfl (by decide) u cs.length (valsI cs) rfl (Uh HS46).own2 ⟨X0.heap.size,0,none⟩ 1 1 [.int .i64 cc] rfl rfl (World.news_of_block (Uh He8).1) (hone _) (by decide) hmx2 hby2 (Uh HS46).le X46.heap.size rfl ?_
    intro g47 cp47 X47 hown hg hat hlt
    have HS47:=Hj ((Uh HS46).app2 hown hg hat)
    clear hown hg hat hlt
    refine hK _ _ (fun _ => (Uh HS47).chg) ?_
    clear hK K
    refine anyTill_each (rs:=[10]) (by kernel_rfl) (by decide) ?_
    intro i hi K hK
    obtain rfl:i = 10:=by simpa using hi
    clear hi
    refine wpOp_wp rfl (by rfl) ?_
    have bc48:=(Uh HS47).c1
    have bf48:=(Uh HS47).f1
    go_simp
    refine hK _ _ (fun _ => (Uh HS47).chg.trans (Chg.of_set _ _ _ _ (.inr (.inr rfl)))) ?_
    clear hK K bc48 bf48
    refine anyTill_each (rs:=[11]) (by kernel_rfl) (by decide) ?_
    intro i hi K hK
    obtain rfl:i = 11:=by simpa using hi
    clear hi
    refine wpOp_wp rfl (by rfl) ?_
    have bc49:=(Uh HS47).c2 (.slice (some ⟨g46,0,none⟩) (rs.length + 1) cp46) (show w1.heap.size ≠ w1.heap.size + 1 by omega)
    have bf49:=(Uh HS47).f2 (.slice (some ⟨g46,0,none⟩) (rs.length + 1) cp46) (show w1.heap.size ≠ w1.heap.size + 1 by omega)
    go_simp
    refine hK _ _ (fun h => absurd rfl h) ?_
    clear hK K bc49 bf49
    refine anyTill_done (by kernel_rfl) ?_
    exact Uh HFN _ _ _ (Uh HS47)
 case done =>
  rintro D ys W hD hys hI hK
  subst hys
  have hmp:=flP_maps (Uh HM) R (Nat.le_refl _)
  have hlast:cols.take (st.getD R 0).toNat = cols:=by
   have h8:=(Uh HM).head.last
   rw [show ((R:Int)).toNat = R by omega] at h8
   rw [h8]
   exact List.take_length
  rw [hlast] at hmp
  rw [hmp.1,hmp.2] at hI
  obtain ⟨v,u,⟨k1,k2⟩,o1,o2,ap⟩:=hI.two
  have HPD:=Hj (fun o' => OwnFrom.putObj (PgI.own (fun _:Unit => plR st R) (fun _ => cols) (w:=w) (b1:=w1.heap.size) (b2:=w1.heap.size + 1) hle9) o' (s:=()) (show PgI w W.drew wf.heap.size w1.heap.size (w1.heap.size + 1) (plR st R) cols from ⟨hI.bel.drew,hI.two,hI.le⟩) hD (show W.drew.heap[D]? = _ from hK) rfl)
  have HO:=Hj (And.intro o1 (And.intro o2 (And.intro k1 k2)))
  obtain ⟨x1,y1,rfl,s1⟩:=own_slI o1
  obtain ⟨x2,y2,rfl,s2⟩:=own_slI o2
  have rc1:W.cell? ⟨w1.heap.size,0,none⟩ = some (.slice x1 (plR st R).length y1):=(cell_of_block k1 0).trans rfl
  have rc2:W.cell? ⟨w1.heap.size + 1,0,none⟩ = some (.slice x2 cols.length y2):=(cell_of_block k2 0).trans rfl
  clear hI k1 k2 o1 o2 ap s1 s2 hmp hlast HSeq
  gi_wp2_with fail
  gi_region
  gi_wp2_with fail
  refine ⟨by simp,.inl ⟨_,_,rfl,run_takeDeferred hK,?_⟩⟩
  refine ⟨.tuple #[.slice x1 (plR st R).length y1,.slice x2 cols.length y2,.int .i64 0],by simp [results,Try.results7,go_sem]; try rfl,?_⟩
  have g:=grownBy_putObj' W.drew D (Obj.deferred none)
  have hr:∀ r,some D = some r → ∃ o:Obj,W.drew.heap[r]? = some o ∧ o.isCells = false:=fun r e => by cases e; exact ⟨_,hK,rfl⟩
  obtain ⟨a5,c5,e5,s5⟩:=own_slI (own_keptP (w:=W.drew) (Uh HO).1 g hr)
  obtain ⟨a6,c6,e6,s6⟩:=own_slI (own_keptP (w:=W.drew) (Uh HO).2.1 g hr)
  injection e5 with e51 e52 e53
  injection e6 with e61 e62 e63
  subst e51 e53 e61 e63
  exact ⟨⟨_,_,_,_,rfl,s5,s6⟩,(Uh HPD _).bel⟩
 case stop =>
  rintro D c pre W hD _ h
  exact h.elim
end Go.Proofs.Ytoghiadalnngjaa
