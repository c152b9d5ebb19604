/- Rq2 -/
import Derived.Test.YtkbcmnjgkmkeaaaGreatRq1
import Derived.OrdersIn
import Derived.OwnWalkIn
import Derived.RangeFuncCalls
import Derived.Test.YtkbcmnjgkmkeaaaGreatSp5
namespace Go.Proofs.YtkbcmnjgkmkeaaaGreat
open Go.RowKit Go.Deep
set_option linter.unusedVariables false
section
variable {P:Program} {ops:Array Oper} {Q:Exit → Act → World → Prop} {md:Region.Mode} {n l:Nat}
end
noncomputable def grR (P:Nat → Nat → Prop) (u:Nat):Nat → List Int
 | 0 => []
 | k + 1 => grR P u k ++ (if tb (P u k) = true then [(k:Int)] else [])
theorem grR_len (P:Nat → Nat → Prop) (u:Nat):∀ k,(grR P u k).length ≤ k
 | 0 => Nat.le_refl _
 | k + 1 => by
  have:=grR_len P u k
  simp only [grR,List.length_append]
  split <;> simp <;> omega
structure PbI (w1 W:World) (B X:Nat) (n:Int) (vS vC:Value) (S C:List Int):Prop where
 box:W.heap[X]? = some (.cells #[.int .i64 n,.int .i64 n,vS,vC] 61 (0,0))
 ownS:W.ownsRow B 3 1 vS S.length (valsI S)
 ownC:W.ownsRow B 3 1 vC C.length (valsI C)
 apart:∀ g,vS.ownBlock = some g → vC.ownBlock ≠ some g
 bel:Below B w1 W
 le:B ≤ W.heap.size
 lx:B ≤ X
theorem own_neB {w:World} {B:Nat} {e:TypeId} {v:Value} {n:Nat} {xs:List Value} (h:w.ownsRow B e 1 v n xs) {k:Nat} {cs:Array Value} {e2:TypeId} (hk:w.heap[k]? = some (.cells cs e2 (0,0))) (hne:e ≠ e2):v.ownBlock ≠ some k:=by
 intro he
 rcases h.2 with ⟨h1,_⟩ | ⟨g,cap,cur,h1,h2,h3,_⟩
 ·rw [h1] at he; simp [Value.ownBlock] at he
 ·rw [h1] at he
  have:g = k:=by simpa [Value.ownBlock] using he
  subst this
  rw [h3] at hk
  cases hk
  exact hne rfl
theorem PbI.below {w1 W Wn:World} {B X:Nat} {n:Int} {vS vC:Value} {S C:List Int} (h:PbI w1 W B X n vS vC S C) (k:Below W.heap.size W Wn):PbI w1 Wn B X n vS vC S C :=
 ⟨(k.block _ (Array.getElem?_eq_some_iff.1 h.box).1).trans h.box,ownsRow_chg (S:=fun _ => False) h.ownS (.of_below k) (fun _ _ => id),ownsRow_chg (S:=fun _ => False) h.ownC (.of_below k) (fun _ _ => id),h.apart,h.bel.trans (k.mono h.le),Nat.le_trans h.le k.size,h.lx⟩


def MeP (xs:List Int) (i j:Nat) (x:Nat):Prop:=∃ p q:Nat,(p < i ∧ q < xs.length ∨ p = i ∧ q < j) ∧ xs.getD p 0 * 128 + xs.getD q 0 = (x:Int)
theorem MeP.next {xs:List Int} {i x:Nat}:MeP xs (i + 1) 0 x ↔ MeP xs i xs.length x:=by
 constructor
 ·rintro ⟨p,q,h,e⟩
  rcases h with ⟨h1,h2⟩ | ⟨h1,h2⟩
  ·by_cases e2:p = i
   ·exact ⟨p,q,.inr ⟨e2,h2⟩,e⟩
   ·exact ⟨p,q,.inl ⟨by omega,h2⟩,e⟩
  ·omega
 ·rintro ⟨p,q,h,e⟩
  rcases h with ⟨h1,h2⟩ | ⟨h1,h2⟩
  ·exact ⟨p,q,.inl ⟨by omega,h2⟩,e⟩
  ·exact ⟨p,q,.inl ⟨by omega,h2⟩,e⟩
structure PrS (w W:World) (b:Nat) (P:Nat → Prop):Prop where
 row:RoV W b 16384 (fun x => .bool (tb (P x)))
 chg:Chg (fun j => j = b) w W
theorem PrS.put {w W:World} {b:Nat} {P R:Nat → Prop} (h:PrS w W b P) (x:Nat) (hx:x < 16384) (e:∀ y,R y ↔ (P y ∨ y = x)):PrS w (W.setCell ⟨b,x,none⟩ (.bool true)) b R:=by
 refine ⟨(h.row.put x (.bool true) hx).congr (fun i hi => ?_),h.chg.trans (Chg.of_set _ _ _ _ rfl)⟩
 by_cases c:i = x
 ·simp only [c,if_true]
  rw [tb_yes ((e x).2 (.inr rfl))]
 ·simp only [c,if_false]
  rw [tb_congr (show P i ↔ R i from ⟨fun p => (e i).2 (.inl p),fun q => ((e i).1 q).resolve_right c⟩)]
theorem PrS.congr {w W:World} {b:Nat} {P R:Nat → Prop} (h:PrS w W b P) (e:∀ x,P x ↔ R x):PrS w W b R:=⟨h.row.congr (fun i hi => by rw [tb_congr (e i)]),h.chg⟩
theorem PrS.drew {w W:World} {b:Nat} {P:Nat → Prop} (h:PrS w W b P):PrS w W.drew b P:=⟨h.row.chg (S:=fun _ => False) (Chg.of_drew _) (fun x => x),h.chg.trans (Chg.of_drew _)⟩
def subV (a:Option Addr) (c X Y:Nat):Value:=.slice (if c = X then a else Option.map (fun x => x.add X) a) (Y - X) (c - X)
set_option maxRecDepth 100000 in
set_option maxHeartbeats 16000000 in
theorem crow_any (R:Nat) (width:Int) (a1 a2:Option Addr) (n1 c1 n2 c2:Nat) (st cols:List Int) (r X Y:Nat) (w:World) (h1:SlI w a1 n1 c1 st) (h2:SlI w a2 n2 c2 cols) (hb1:n1 ≤ 17592186044416) (hb2:n2 ≤ 17592186044416) (hm:MayP (R:Int) width st cols) (hr:r < R) (hR:RowAt st cols width r X Y) :
  Calls Tryz.prog 66 #[patV (R:Int) width a1 n1 c1 a2 n2 c2,.int .i64 (r:Int)] w fun e w' => e = .returned (subV a2 c2 X Y) ∧ Below w.heap.size w w':=by
 obtain ⟨wb,hwb⟩:∃ x,w.alloc (.cells #[.int .i64 (R:Int),.int .i64 width,.slice a1 n1 c1,.slice a2 n2 c2] 61) = x:=⟨_,rfl⟩
 have bb:Below w.heap.size w wb:=by rw [← hwb]; exact bAl
 have hT:=BoxP.made w #[.int .i64 (R:Int),.int .i64 width,.slice a1 n1 c1,.slice a2 n2 c2] 61
 rw [hwb] at hT
 have p0:=(hT.all 0 _ rfl).1
 have p1:=(hT.all 1 _ rfl).1
 have p2:=(hT.all 2 _ rfl).1
 have p3:=(hT.all 3 _ rfl).1
 have hln:=h1.len
 have hlc:=h2.len
 have hl2:=hm.head.len
 have hnc:=h2.le
 have hfit:=hm.head.fit
 obtain ⟨b1,o1,rfl,hc1⟩:=(h1.below bb).at (by omega)
 have sk:=hc1 r (by omega)
 have sk1:=hc1 (r + 1) (by omega)
 rw [hR.hX] at sk
 rw [hR.hY] at sk1
 have hXY:=hR.le
 have hYn:=hR.lt
 have hn1:n1 = R + 1:=by omega
 subst hn1
 have tr:(r:Int) < (R:Int) + 1:=by omega
 have tr1:(r:Int) + 1 < (R:Int) + 1:=by omega
 have tXY:(X:Int) ≤ (Y:Int):=by omega
 have tYc:(Y:Int) ≤ (c2:Int):=by omega
 have hr8:r < 128:=by omega
 have HB:=Hj bb
 clear hT bb hc1 hm hR h1 h2 hln hlc hl2 hfit
 unfold patV
 go_enter Tryz.func66,Tryz.ntmps66
 go_wp2_with fail
 try go_quiet (fail)
 all_goals (try go_wp2_with fail)
 all_goals (try go_ret)
 all_goals exact ⟨by simp_all [subV],by first | exact Uh HB | exact bel_drewN (Uh HB) _⟩
end Go.Proofs.YtkbcmnjgkmkeaaaGreat
