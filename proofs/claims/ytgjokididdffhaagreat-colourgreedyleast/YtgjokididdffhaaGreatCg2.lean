/- Sp9 -/
import Derived.Test.YtgjokididdffhaaGreatSp8
import Derived.Test.YtgjokididdffhaaGreatDa1
namespace Go.Proofs.YtgjokididdffhaaGreat
open Go.RowKit Go.Deep Go.Shelf
set_option linter.unusedVariables false
attribute [local go_sem] Oper.semAt_some

structure PgI (w W:World) (B b1 b2:Nat) (rs cs:List Int):Prop where
 bel:Below w.heap.size w W
 two:∃ v u,(W.heap[b1]? = some (.cells #[v] 23 (0,0)) ∧ W.heap[b2]? = some (.cells #[u] 23 (0,0))) ∧ W.ownsRow B 3 1 v rs.length (valsI rs) ∧ W.ownsRow B 3 1 u cs.length (valsI cs) ∧ ∀ g,v.ownBlock = some g → u.ownBlock ≠ some g
 le:B ≤ W.heap.size
theorem own_keptP {w w':World} {B:Nat} {e:TypeId} {v:Value} {n:Nat} {xs:List Value} (h:w.ownsRow B e 1 v n xs) {row:Option Nat} (hg:w.grownBy w' row) (hr:∀ r,row = some r → ∃ o:Obj,w.heap[r]? = some o ∧ o.isCells = false):w'.ownsRow B e 1 v n xs:=by
 refine h.kept hg ?_
 rcases h.2 with ⟨h1,_⟩ | ⟨g,cap,cur,h1,h2,h3,_⟩
 ·left; rw [h1]; rfl
 ·right
  rw [h1]
  intro he
  obtain ⟨o,ho,hc⟩:=hr g he.symm
  rw [h3] at ho
  cases ho
  cases hc
theorem blk_keptP {w w':World} {k:Nat} {cs:Array Value} {e:TypeId} (h:w.heap[k]? = some (.cells cs e (0,0))) {row:Option Nat} (hg:w.grownBy w' row) (hr:∀ r,row = some r → ∃ o:Obj,w.heap[r]? = some o ∧ o.isCells = false):w'.heap[k]? = some (.cells cs e (0,0)):=by
 refine (hg.block k (Array.getElem?_eq_some_iff.1 h).1 (fun he => ?_)).trans h
 obtain ⟨o,ho,hc⟩:=hr k he.symm
 rw [h] at ho
 cases ho
 cases hc
theorem PgI.own {β:Type} {w:World} {B b1 b2:Nat} (r c:β → List Int) (hB:w.heap.size ≤ B):OwnFrom B (fun (s:β) W => PgI w W B b1 b2 (r s) (c s)):=by
 intro s W W' row h hg hr
 have hr':∀ r,row = some r → ∃ o:Obj,W.heap[r]? = some o ∧ o.isCells = false:=fun r e => (hr r e).2
 obtain ⟨v,u,⟨k1,k2⟩,o1,o2,ap⟩:=h.two
 exact ⟨h.bel.grown hg h.bel.size (fun k e => Nat.le_trans hB (hr k e).1),⟨v,u,⟨blk_keptP k1 hg hr',blk_keptP k2 hg hr'⟩,own_keptP o1 hg hr',own_keptP o2 hg hr',ap⟩,Nat.le_trans h.le hg.size⟩
structure AqS (W Wc:World) (B b1 b2:Nat) (v0 u0 v u:Value) (rs cs:List Int):Prop where
 chg:Chg (fun j => v0.ownBlock = some j ∨ u0.ownBlock = some j ∨ j = b1) W Wc
 bx1:Wc.heap[b1]? = some (.cells #[v0] 23 (0,0))
 bx2:Wc.heap[b2]? = some (.cells #[u0] 23 (0,0))
 own1:Wc.ownsRow B 3 1 v rs.length (valsI rs)
 own2:Wc.ownsRow B 3 1 u cs.length (valsI cs)
 apart:∀ g,v.ownBlock = some g → u.ownBlock ≠ some g
 le:B ≤ Wc.heap.size
 lw:W.heap.size ≤ Wc.heap.size
 kp:KeepsFrom B W Wc
theorem own_neP {w:World} {B:Nat} {e:TypeId} {v:Value} {n:Nat} {xs:List Value} (h:w.ownsRow B e 1 v n xs) {k:Nat} {cs:Array Value} {e2:TypeId} (hk:w.heap[k]? = some (.cells cs e2 (0,0))) (hne:e ≠ e2):v.ownBlock ≠ some k:=by
 intro he
 rcases h.2 with ⟨h1,_⟩ | ⟨g,cap,cur,h1,h2,h3,_⟩
 ·rw [h1] at he; simp [Value.ownBlock] at he
 ·rw [h1] at he
  have:g = k:=by simpa [Value.ownBlock] using he
  subst this
  rw [h3] at hk
  cases hk
  exact hne rfl
theorem AqS.below {W Wc Wn:World} {B b1 b2:Nat} {v0 u0 v u:Value} {rs cs:List Int} (h:AqS W Wc B b1 b2 v0 u0 v u rs cs) (k:Below Wc.heap.size Wc Wn):AqS W Wn B b1 b2 v0 u0 v u rs cs:=by
 have lt:∀ {i:Nat} {o:Obj},Wc.heap[i]? = some o → i < Wc.heap.size:=fun h => (Array.getElem?_eq_some_iff.1 h).1
 refine ⟨⟨k.os.trans h.chg.os,k.tape.trans h.chg.tape,k.output.trans h.chg.output,Nat.le_trans h.chg.size k.size,fun j hj hS => (k.block j (Nat.lt_of_lt_of_le hj h.lw)).trans (h.chg.block j hj hS)⟩,(k.block _ (lt h.bx1)).trans h.bx1,(k.block _ (lt h.bx2)).trans h.bx2,ownsRow_chg (S:=fun _ => False) h.own1 (.of_below k) (fun _ _ => id),ownsRow_chg (S:=fun _ => False) h.own2 (.of_below k) (fun _ _ => id),h.apart,Nat.le_trans h.le k.size,Nat.le_trans h.lw k.size,⟨Nat.le_trans h.kp.size k.size,fun j o hB hj ho => by
  have h1:=h.kp.same j o hB hj ho
  exact (k.block _ (lt h1)).trans h1⟩⟩
theorem frz_blk {w:World} {b:Nat} {cs:Array Value} {e:TypeId} (h:w.heap[b]? = some (.cells cs e (0,0))) (i:Nat):w.frozen? ⟨b,i,none⟩ = false:=by simp [World.frozen?,h]
theorem AqS.c1 {W Wc:World} {B b1 b2:Nat} {v0 u0 v u:Value} {rs cs:List Int} (h:AqS W Wc B b1 b2 v0 u0 v u rs cs):Wc.cell? ⟨b1,0,none⟩ = some v0:=(cell_of_block h.bx1 0).trans rfl
theorem AqS.f1 {W Wc:World} {B b1 b2:Nat} {v0 u0 v u:Value} {rs cs:List Int} (h:AqS W Wc B b1 b2 v0 u0 v u rs cs):Wc.frozen? ⟨b1,0,none⟩ = false:=frz_blk h.bx1 0
theorem AqS.c2 {W Wc:World} {B b1 b2:Nat} {v0 u0 v u:Value} {rs cs:List Int} (h:AqS W Wc B b1 b2 v0 u0 v u rs cs) (y:Value) (hne:b1 ≠ b2):(Wc.setCell ⟨b1,0,none⟩ y).cell? ⟨b2,0,none⟩ = some u0:=(cell_of_block ((blk_setCell_other _ _ _ _ (fun e => hne e.symm)).trans h.bx2) 0).trans rfl
theorem AqS.f2 {W Wc:World} {B b1 b2:Nat} {v0 u0 v u:Value} {rs cs:List Int} (h:AqS W Wc B b1 b2 v0 u0 v u rs cs) (y:Value) (hne:b1 ≠ b2):(Wc.setCell ⟨b1,0,none⟩ y).frozen? ⟨b2,0,none⟩ = false:=frz_blk ((blk_setCell_other _ _ _ _ (fun e => hne e.symm)).trans h.bx2) 0
theorem AqS.fin {w W Wc:World} {B b1 b2:Nat} {v0 u0 v u:Value} {rs cs:List Int} (h:AqS W Wc B b1 b2 v0 u0 v u rs cs) (hb:Below w.heap.size w W) (hwB:w.heap.size ≤ B) (hb1:w.heap.size ≤ b1) (hb2:w.heap.size ≤ b2) (hne:b1 ≠ b2) (l1:∀ j,v0.ownBlock = some j → B ≤ j) (l2:∀ j,u0.ownBlock = some j → B ≤ j) :
  KeepsFrom B W ((Wc.setCell ⟨b1,0,none⟩ v).setCell ⟨b2,0,none⟩ u) ∧ KpY (fun j => j = b1 ∨ j = b2) B W ((Wc.setCell ⟨b1,0,none⟩ v).setCell ⟨b2,0,none⟩ u) ∧ PgI w ((Wc.setCell ⟨b1,0,none⟩ v).setCell ⟨b2,0,none⟩ u) B b1 b2 rs cs:=by
 have c1:Chg (fun j => j = b1 ∨ j = b2) Wc ((Wc.setCell ⟨b1,0,none⟩ v).setCell ⟨b2,0,none⟩ u):=(Chg.of_set (S:=fun j => j = b1 ∨ j = b2) _ _ _ _ (.inl rfl)).trans (Chg.of_set (S:=fun j => j = b1 ∨ j = b2) _ _ _ _ (.inr rfl))
 have c0:KpY (fun j => j = b1 ∨ j = b2) B W ((Wc.setCell ⟨b1,0,none⟩ v).setCell ⟨b2,0,none⟩ u):=by
  refine ⟨c1.os.trans h.chg.os,c1.tape.trans h.chg.tape,c1.output.trans h.chg.output,Nat.le_trans h.chg.size c1.size,fun j hj hS => ?_⟩
  rw [c1.block j (Nat.lt_of_lt_of_le hj h.lw) (fun e => hS (.inl e)),h.chg.block j hj (fun e => hS ?_)]
  rcases e with e | e | e
  ·exact .inr (l1 j e)
  ·exact .inr (l2 j e)
  ·exact .inl (.inl e)
 have r1:(Wc.setCell ⟨b1,0,none⟩ v).heap[b1]? = some (.cells #[v] 23 (0,0)):=by simp [World.setCell,Array.getElem?_modify,h.bx1]
 have r2:(Wc.setCell ⟨b1,0,none⟩ v).heap[b2]? = some (.cells #[u0] 23 (0,0)):=by rw [blk_setCell_other _ _ _ _ (fun e => hne e.symm)]; exact h.bx2
 have o1:=ownsRow_chg h.own1 c1 (fun j hj e => by rcases e with rfl | rfl; exact own_neP h.own1 h.bx1 (by decide) hj; exact own_neP h.own1 h.bx2 (by decide) hj)
 have o2:=ownsRow_chg h.own2 c1 (fun j hj e => by rcases e with rfl | rfl; exact own_neP h.own2 h.bx1 (by decide) hj; exact own_neP h.own2 h.bx2 (by decide) hj)
 refine ⟨h.kp.trans ⟨c1.size,fun j o hB hj ho => ?_⟩,c0,⟨hb.trans (c0.below hb.size (fun j hj e => by rcases e with (e | e) | e <;> omega)),⟨v,u,⟨?_,?_⟩,o1,o2,h.apart⟩,Nat.le_trans h.le c1.size⟩⟩
 ·refine (c1.block j (Array.getElem?_eq_some_iff.1 hj).1 (fun e => ?_)).trans hj
  rcases e with rfl | rfl
  ·rw [h.bx1] at hj; cases hj; cases ho
  ·rw [h.bx2] at hj; cases hj; cases ho
 ·rw [blk_setCell_other _ _ _ _ hne]; exact r1
 ·simp [World.setCell,Array.getElem?_modify] at r2 ⊢
  rw [r2]
  simp
theorem own_slG {w:World} {base n:Nat} {e:TypeId} {v:Value} {xs:List Int} (h:w.ownsRow base e 1 v n (valsI xs)):∃ a c,v = .slice a n c ∧ SlI w a n c xs:=by
 have hl:xs.length = n:=by have:=h.1; simpa [valsI] using this
 rcases h.2 with ⟨rfl,rfl⟩ | ⟨b,cap,cur,rfl,h4,h5,h6,h7,h8,h9⟩
 ·have:xs = []:=List.eq_nil_of_length_eq_zero hl
  subst this
  exact ⟨none,0,rfl,SlI.nil _⟩
 ·refine ⟨_,_,rfl,⟨hl,h6,h7,.inr ⟨b,0,rfl,fun i hi => ?_⟩⟩⟩
  rw [Nat.zero_add,cell_of_block h5]
  have:(cur.toList.take (n * 1))[i]? = (valsI xs)[i]?:=by rw [h9]
  rw [List.getElem?_take_of_lt (by omega)] at this
  rw [← Array.getElem?_toList,this]
  simp [valsI,List.getD,hi]
theorem kpY_t {Z:Nat → Prop} {n₀:Nat} {A B C:World} (h:KpY Z n₀ A B) (k:KpY Z n₀ B C):KpY Z n₀ A C:=Chg.trans h k
theorem kpY_b {Z:Nat → Prop} {n₀:Nat} {w:World} (hn:n₀ ≤ w.heap.size) (W:World) (l:Nat) (o o':Obj) (hl:w.heap.size ≤ l) (h:W.heap[l]? = some o) (_:o.isCells = false) (_:o.isWalk = false):KpY Z n₀ W (W.putObj l o') :=
 ⟨rfl,rfl,rfl,by simp,fun k hk hs => World.putObj_heap_other (fun e => hs (.inr (by omega)))⟩
end Go.Proofs.YtgjokididdffhaaGreat
namespace Go.Proofs.YtgjokididdffhaaGreat
open Go.RowKit Go.Deep
set_option linter.unusedVariables false
set_option maxRecDepth 100000 in
set_option maxHeartbeats 16000000 in
theorem pgraph_any (n b:Nat) (Q:Nat → Bool) (P:Nat → Nat → Prop) (w:World) (hn:n ≤ 128) (hR:RoV w b 16384 (fun i => .bool (Q i))) (hP:∀ u v,u < n → v < n → ((Q (u * 128 + v) = true ∧ u ≠ v) ↔ P u v)) :
  Calls Tryz.prog 84 #[.pointer (some ⟨b,0,none⟩),.int .i64 (n:Int)] w fun e w' => GpP w w' e n (grS P n n) (grC P n n):=by
 have hO0:=BoxP.made w #[.int .i64 0,.int .i64 0,.slice none 0 0,.slice none 0 0] 25
 obtain ⟨wo,hwo⟩:∃ x,w.alloc (.cells #[.int .i64 0,.int .i64 0,.slice none 0 0,.slice none 0 0] 25) = x:=⟨_,rfl⟩
 have bbo:Below w.heap.size w wo:=by rw [← hwo]; exact bAl
 rw [hwo] at hO0
 obtain ⟨i64,hi,hz,hs,hb⟩:=info_parts Tryz.info_i64
 have HI:=Hj (And.intro hi (And.intro hz (And.intro hs hb)))
 have hone:∀ y:Int,∀ z ∈ [Value.int .i64 y],z.oneCell' = true:=by intro y z hz; simp at hz; subst hz; rfl
 have hlt2:w.heap.size < wo.heap.size:=hO0.lt
 have HX:=Hj (And.intro hO0 (hR.below bbo))
 have HB:=Hj bbo
 have HWB:=Hj (Nat.le_refl w.heap.size)
 have HPP:=Hj hP
 have hnn:n * n ≤ 16384:=Nat.mul_le_mul hn hn
 have HP0:=Hj (show PbI wo ((wo.alloc (.cells #[.int .i64 0] 3)).alloc (.cells #[.int .i64 (n:Int),.int .i64 (n:Int),.slice (some ⟨wo.heap.size,0,none⟩) 1 1,.slice none 0 0] 25)) wo.heap.size (wo.heap.size + 1) (n:Int) (.slice (some ⟨wo.heap.size,0,none⟩) 1 1) (.slice none 0 0) [0] [] from by
  have e:(wo.alloc (.cells #[.int .i64 0] 3)).heap.size = wo.heap.size + 1:=by simp
  refine ⟨?_,⟨rfl,.inr ⟨wo.heap.size,1,#[.int .i64 0],rfl,Nat.le_refl _,?_,Nat.le_refl _,by decide,rfl,rfl⟩⟩,World.ownsRow_nil _ _ _ _,fun g hg hu => (by simp [Value.ownBlock] at hu),(bAl).alloc (by simp) _,by simp; omega,by omega⟩
  ·have:=alloc_block (wo.alloc (.cells #[.int .i64 0] 3)) (.cells #[.int .i64 (n:Int),.int .i64 (n:Int),.slice (some ⟨wo.heap.size,0,none⟩) 1 1,.slice none 0 0] 25)
   rw [e] at this
   exact this
  ·exact (((Below.refl (wo.alloc (.cells #[.int .i64 0] 3)).heap.size _).alloc (Nat.le_refl _) _).block _ (by simp)).trans (alloc_block _ _))
 clear hi hz hs hb bbo hO0 hR hP
 go_enter Tryz.func84,Tryz.ntmps84
 go_wp2_with fail
 generalize (wo.alloc (Obj.cells #[Value.int IntKind.i64 0] 3)).alloc (Obj.cells #[Value.int IntKind.i64 (n:Int),Value.int IntKind.i64 (n:Int),Value.slice (some ⟨wo.heap.size,0,none⟩) 1 1,Value.slice none 0 0] 25) = w0 at *
 obtain ⟨X,hX⟩:∃ X,wo.heap.size + 1 = X:=⟨_,rfl⟩
 rw [hX] at HP0 ⊢
 have HXX:=Hj hX
 clear hX
 have HBX:=Hj (show ∀ W,Below wo.heap.size wo W → BoxP W w.heap.size [.int .i64 0,.int .i64 0,.slice none 0 0,.slice none 0 0] ∧ RoV W b 16384 (fun i => .bool (Q i)) from fun W k => ⟨(Uh HX).1.below k,(Uh HX).2.below k⟩)
 go_loopw [13,6] (fun kv _ wr => ∃ k:Nat,k ≤ n ∧ kv = .int .i64 (k:Int) ∧ Hid (∃ vS vC,PbI wo wr wo.heap.size X (n:Int) vS vC (grS P n k) (grC P n k))) (fun kv _ _ => n - (intOf kv).toNat)
 case atStart => exact ⟨0,Nat.zero_le _,rfl,Hj ⟨_,_,Uh HP0⟩⟩
 case round =>
  obtain ⟨k,hk,rfl,HK⟩:=hrel
  by_cases hlt:k < n
  ·have hlt':(k:Int) < (n:Int):=by omega
   obtain ⟨vS,vC,hPb⟩:=Uh HK
   have hbx:=Uh HBX wr hPb.bel
   have HK0:=Hj (show ∃ vS vC,PbI wo wr wo.heap.size X (n:Int) vS vC (grS P n k) (grC P n k ++ grR P k 0) from ⟨vS,vC,by rw [show grR P k 0 = [] from rfl,List.append_nil]; exact hPb⟩)
   clear hPb hbx HK
   go_wp2_with fail
   go_loopw [17,7] (fun iv _ wq => ∃ v:Nat,v ≤ n ∧ iv = .int .i64 (v:Int) ∧ Hid (∃ vS vC,PbI wo wq wo.heap.size X (n:Int) vS vC (grS P n k) (grC P n k ++ grR P k v))) (fun iv _ _ => n - (intOf iv).toNat)
   case atStart => exact ⟨0,Nat.zero_le _,rfl,HK0⟩
   case round =>
    obtain ⟨v,hv,rfl,HV⟩:=hrel
    obtain ⟨vS,vC,hPb⟩:=Uh HV
    have hbx:=Uh HBX wr hPb.bel
    have hCl:(grC P n k ++ grR P k v).length ≤ 16384:=by
     have h1:=grC_len P n k
     have h2:=grR_len P k v
     have h3:(k + 1) * n ≤ n * n:=Nat.mul_le_mul_right _ hlt
     rw [Nat.add_mul,Nat.one_mul] at h3
     rw [List.length_append]
     omega
    by_cases hin:v < n
    ·have hin':(v:Int) < (n:Int):=by omega
     have hQ:=Uh HPP k v hlt hin
     have hcell:wr.cell? ⟨b,k * 128 + v,none⟩ = some (.bool (Q (k * 128 + v))):=(hbx.2 (k * 128 + v) (by omega)).1
     obtain ⟨bq,hbq⟩:∃ bq,Q (k * 128 + v) = bq:=⟨_,rfl⟩
     rw [hbq] at hcell hQ
     obtain ⟨bn,hbn⟩:∃ bn,((k:Int) != (v:Int)) = bn:=⟨_,rfl⟩
     have HR:=Hj (show grR P k (v + 1) = grR P k v ++ (if (bq && bn) = true then [(v:Int)] else []) from by
      simp only [grR]
      have hb2:bn = true ↔ k ≠ v:=by rw [← hbn]; simp; omega
      have:tb (P k v) = (bq && bn):=by
       cases bq
       ·exact tb_no (fun z => by have:=(hQ.2 z).1; cases this)
       ·cases bn
        ·exact tb_no (fun z => by have:=hb2.2 (hQ.2 z).2; cases this)
        ·exact tb_yes (hQ.1 ⟨rfl,hb2.1 rfl⟩)
      rw [this])
     have HPb:=Hj hPb
     clear hPb hbx hQ hbq
     by_cases hc1:bq = false
     ·subst hc1
      go_wp2_with fail
      exact ⟨⟨v + 1,by omega,by (first | rfl | go_num),Hj ⟨vS,vC,by have h9:=Uh HR; simp at h9; rw [h9]; exact Uh HPb⟩⟩,by simp [intOf]; omega⟩
     by_cases hc2:bn = false
     ·obtain rfl:bq = true:=by cases bq; exact absurd rfl hc1; rfl
      subst hc2
      go_wp2_with fail
      exact ⟨⟨v + 1,by omega,by (first | rfl | go_num),Hj ⟨vS,vC,by have h9:=Uh HR; simp at h9; rw [h9]; exact Uh HPb⟩⟩,by simp [intOf]; omega⟩
     ·obtain rfl:bq = true:=by cases bq; exact absurd rfl hc1; rfl
      obtain rfl:bn = true:=by cases bn; exact absurd rfl hc2; rfl
      clear hc1 hc2
      have HP3:=HPb
      have HR2:=Hj (show grR P k (v + 1) = grR P k v ++ [(v:Int)] from by have:=Uh HR; simpa using this)
      have x3:=(cell_of_block (Uh HP3).box 3).trans (show _ = some vC from rfl)
      have hle:=(Uh HP3).le
      obtain ⟨C,hC⟩:∃ C,grC P n k ++ grR P k v = C:=⟨_,rfl⟩
      rw [hC] at HP3 hCl
      have HC:=Hj hC
      have hmx:C.length + 1 ≤ maxLen:=by unfold maxLen; omega
      have hby:(C.length + 1) * 8 ≤ 140737488355328:=by omega
      clear hC
      go_wp2_with (at_builtin; refine wpList_append_lies _ rfl _ _ 23 rfl wo.heap.size 3 i64 (.int .i64 0) 1 8 Tryz.underlying23 (Uh HI).1 (Uh HI).2.1 (Uh HI).2.2.1 (Uh HI).2.2.2 rfl (by decide) vC C.length (valsI C) rfl ((Uh HP3).ownC.alloc _) ⟨wr.heap.size,0,none⟩ 1 1 [.int .i64 (v:Int)] rfl rfl (World.news_of_block (alloc_block _ _)) (hone _) (by decide) hmx hby (by simp; omega) (wr.heap.size + 1) (by simp) ?_)
      intro g cap w4 hown hg hat hlt4
      have hXl:=(Array.getElem?_eq_some_iff.1 (Uh HP3).box).1
      have hb4:w4.heap[X]? = some (.cells #[.int .i64 (n:Int),.int .i64 (n:Int),vS,vC] 25 (0,0)):=(hg.block X (by simp; omega) (fun e => own_neB (Uh HP3).ownC (Uh HP3).box (by decide) e.symm)).trans (((bAl).block X hXl).trans (Uh HP3).box)
      have y3:=(cell_of_block hb4 3).trans (show _ = some vC from rfl)
      have z3:w4.frozen? ⟨X,3,none⟩ = false:=by simp [World.frozen?,hb4]
      have HP4:=Hj (((Uh HP3).below (bAl)).appC hown hg (by rcases hat with e | e; exact .inl e; exact .inr (by simpa using e)))
      clear hown hg hat hlt4 hb4 x3 hXl
      go_wp2_with fail
      refine ⟨⟨v + 1,by omega,by (first | rfl | go_num),Hj ⟨vS,.slice (some ⟨g,0,none⟩) (C.length + 1) cap,?_⟩⟩,by simp [intOf]; omega⟩
      rw [Uh HR2,← List.append_assoc,Uh HC]
      exact Uh HP4
    ·obtain rfl:v = n:=by omega
     have hin':¬ (v:Int) < (v:Int):=by omega
     have HPb:=Hj hPb
     have x2:=(cell_of_block hPb.box 2).trans (show _ = some vS from rfl)
     have x3:=(cell_of_block hPb.box 3).trans (show _ = some vC from rfl)
     have hle:=hPb.le
     obtain ⟨aC,cC,hvC,_⟩:=own_slI hPb.ownC
     have hSl:(grS P v k).length ≤ 16384:=by rw [grS_len]; omega
     have HE:=Hj (show grC P v (k + 1) = grC P v k ++ grR P k v from rfl)
     obtain ⟨C,hC⟩:∃ C,grC P v k ++ grR P k v = C:=⟨_,rfl⟩
     obtain ⟨S,hS⟩:∃ S,grS P v k = S:=⟨_,rfl⟩
     rw [hC] at HPb hvC hCl HE
     rw [hS] at HPb hSl
     have HS:=Hj hS
     have hmx:S.length + 1 ≤ maxLen:=by unfold maxLen; omega
     have hby:(S.length + 1) * 8 ≤ 140737488355328:=by omega
     subst hvC
     clear hPb hbx hC hS
     go_wp2_with (at_builtin; refine wpList_append_lies _ rfl _ _ 23 rfl wo.heap.size 3 i64 (.int .i64 0) 1 8 Tryz.underlying23 (Uh HI).1 (Uh HI).2.1 (Uh HI).2.2.1 (Uh HI).2.2.2 rfl (by decide) vS S.length (valsI S) rfl ((Uh HPb).ownS.alloc _) ⟨wr.heap.size,0,none⟩ 1 1 [.int .i64 (C.length:Int)] rfl rfl (World.news_of_block (alloc_block _ _)) (hone _) (by decide) hmx hby (by simp; omega) (wr.heap.size + 1) (by simp) ?_)
     intro g cap w4 hown hg hat hlt4
     have hXl:=(Array.getElem?_eq_some_iff.1 (Uh HPb).box).1
     have hb4:w4.heap[X]? = some (.cells #[.int .i64 (v:Int),.int .i64 (v:Int),vS,.slice aC C.length cC] 25 (0,0)):=(hg.block X (by simp; omega) (fun e => own_neB (Uh HPb).ownS (Uh HPb).box (by decide) e.symm)).trans (((bAl).block X hXl).trans (Uh HPb).box)
     have y2:=(cell_of_block hb4 2).trans (show _ = some vS from rfl)
     have z2:w4.frozen? ⟨X,2,none⟩ = false:=by simp [World.frozen?,hb4]
     have HP4:=Hj (((Uh HPb).below (bAl)).appS hown hg (by rcases hat with e | e; exact .inl e; exact .inr (by simpa using e)))
     clear hown hg hat hlt4 hb4 x2 x3 hXl
     go_wp2_with fail
     refine ⟨⟨k + 1,by omega,by (first | rfl | go_num),Hj ⟨.slice (some ⟨g,0,none⟩) (S.length + 1) cap,.slice aC C.length cC,?_⟩⟩,by simp [intOf]; omega⟩
     rw [show grS P v (k + 1) = grS P v k ++ [((grC P v (k + 1)).length:Int)] from rfl,Uh HE,Uh HS]
     exact Uh HP4
  ·obtain rfl:k = n:=by omega
   have hlt':¬ (k:Int) < (k:Int):=by omega
   obtain ⟨vS,vC,hPb⟩:=Uh HK
   have hbx:=Uh HBX wr hPb.bel
   obtain ⟨aS,cS,hvS,sS⟩:=own_slI hPb.ownS
   obtain ⟨aC,cC,hvC,sC⟩:=own_slI hPb.ownC
   subst hvS hvC
   have x0:=(cell_of_block hPb.box 0).trans (show _ = some (Value.int .i64 (k:Int)) from rfl)
   have x1:=(cell_of_block hPb.box 1).trans (show _ = some (Value.int .i64 (k:Int)) from rfl)
   have x2:=(cell_of_block hPb.box 2).trans (show _ = some (Value.slice aS (grS P k k).length cS) from rfl)
   have x3:=(cell_of_block hPb.box 3).trans (show _ = some (Value.slice aC (grC P k k).length cC) from rfl)
   have y0:=(hbx.1.all 0 _ rfl).1
   have y1:=(hbx.1.all 1 _ rfl).1
   have y2:=(hbx.1.all 2 _ rfl).1
   have y3:=(hbx.1.all 3 _ rfl).1
   have f0:=(hbx.1.all 0 _ rfl).2
   have f1:=(hbx.1.all 1 _ rfl).2
   have f2:=(hbx.1.all 2 _ rfl).2
   have f3:=(hbx.1.all 3 _ rfl).2
   have HO:=Hj hbx.1
   have HPb:=Hj hPb
   have HSS:=Hj (And.intro sS sC)
   clear hPb hbx HK sS sC
   go_wp2_with fail
   have hf:=((((Uh HO).put 0 (.int .i64 (k:Int))).put 1 (.int .i64 (k:Int))).put 2 (.slice aS (grS P k k).length cS)).put 3 (.slice aC (grC P k k).length cC)
   have t0:=(hf.all 0 _ rfl).1
   have t1:=(hf.all 1 _ rfl).1
   have t2:=(hf.all 2 _ rfl).1
   have t3:=(hf.all 3 _ rfl).1
   have c4:Chg (fun j => j = w.heap.size) wr ((((wr.setCell ⟨w.heap.size,0,none⟩ (.int .i64 (k:Int))).setCell ⟨w.heap.size,1,none⟩ (.int .i64 (k:Int))).setCell ⟨w.heap.size,2,none⟩ (.slice aS (grS P k k).length cS)).setCell ⟨w.heap.size,3,none⟩ (.slice aC (grC P k k).length cC)):=(((Chg.of_set (S:=fun j => j = w.heap.size) _ _ _ _ rfl).trans (Chg.of_set (S:=fun j => j = w.heap.size) _ _ _ _ rfl)).trans (Chg.of_set (S:=fun j => j = w.heap.size) _ _ _ _ rfl)).trans (Chg.of_set (S:=fun j => j = w.heap.size) _ _ _ _ rfl)
   generalize (((wr.setCell ⟨w.heap.size,0,none⟩ (.int .i64 (k:Int))).setCell ⟨w.heap.size,1,none⟩ (.int .i64 (k:Int))).setCell ⟨w.heap.size,2,none⟩ (.slice aS (grS P k k).length cS)).setCell ⟨w.heap.size,3,none⟩ (.slice aC (grC P k k).length cC) = wf at *
   refine bodyPost_ret (by simp [results,Tryz.results84,go_sem,t0,t1,t2,t3]; try rfl) rfl ?_
   have hS9:=(Uh HPb).ownS
   have hC9:=(Uh HPb).ownC
   refine ⟨aS,cS,aC,cC,rfl,(Uh HSS).1.chg c4 (fun z hz _ e => ?_),(Uh HSS).2.chg c4 (fun z hz _ e => ?_),?_,fun z hz => ?_,fun z hz => ?_⟩
   ·have:=(own_ge hS9 z.block (by rw [hz]; rfl)).1; omega
   ·have:=(own_ge hC9 z.block (by rw [hz]; rfl)).1; omega
   ·exact ((Uh HB).trans ((Uh HPb).bel.mono (Uh HB).size)).trans (c4.below (Nat.le_trans (Uh HB).size (Uh HPb).bel.size) (fun j hj e => by have:=Uh HWB; omega))
   ·have:=(own_ge hS9 z.block (by rw [hz]; rfl)).1; have:=Uh HWB; omega
   ·have:=(own_ge hC9 z.block (by rw [hz]; rfl)).1; have:=Uh HWB; omega
end Go.Proofs.YtgjokididdffhaaGreat
