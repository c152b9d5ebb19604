/- Sp8 -/
import Derived.Test.YtgjokididdffhaaGreatSp7
import Derived.RangeFuncNested
import Derived.RangeFuncBound
import Derived.RangeFuncCalls
import Derived.RangeFuncLeaves
import Derived.Shelf.Abstract
import Derived.OwnWalkIn
import Derived.TacticsInMore
import Derived.LoopNIn
import Derived.LoopIn
import Derived.Stop.RegionWithIn
namespace Go.Proofs.YtgjokididdffhaaGreat
open Go.RowKit Go.Deep Go.Shelf
set_option linter.unusedVariables false
attribute [local go_sem] Oper.semAt_some

theorem part_cells:Tryz.prog.cellsOf 217 = 1:=by kernel_rfl
theorem part_byte:byteOfCell Tryz.prog Tryz.prog.depth 217 0 = some 0:=by kernel_rfl
theorem part_cell {w:World} {B:Nat} {cur:Array Value} (h:w.heap[B]? = some (.cells cur 217 (0,0))):(partAt ⟨B,0,none⟩ 0 0).run Tryz.prog w = .ok ⟨B,0,none⟩ w:=by
 have hs:w.shape? B = some (217,cur.size):=by simp [World.shape?,h]
 have hv:(viewAt B).run Tryz.prog w = .ok none w:=by
  unfold viewAt
  simp [hs]
 have hb:=part_byte
 have hc:=part_cells
 unfold partAt byteOf
 simp [noView,hv,hs,hb,hc,Result.andThen]
def flP (xs:Nat → List Int):Nat → List (Int × Int)
 | 0 => []
 | k + 1 => flP xs k ++ (xs k).map (fun c => ((k:Int),c))
def encP (x:Int × Int):Array Value:=#[.agg #[.int .i64 x.1,.int .i64 x.2],.agg #[]]
abbrev KpY (Z:Nat → Prop) (n₀:Nat):World → World → Prop:=Chg (fun k => Z k ∨ n₀ ≤ k)
structure GrZ (W:World) (Z:Nat → Prop) (n₀ Bs L R:Nat) (f:Nat → Value) (xs:Nat → List Int):Prop where
 b1:W.cell? ⟨Bs,1,none⟩ = some (.slice (some ⟨L,0,none⟩) R R)
 bn:Bs < n₀ ∧ ¬ Z Bs
 ln:L < n₀ ∧ ¬ Z L
 cell:∀ r,r < R → W.cell? ⟨L,r,none⟩ = some (f r)
 line:∀ r,r < R → ∃ a c,f r = .slice a (xs r).length c ∧ SlI W a (xs r).length c (xs r) ∧ ∀ z,a = some z → xs r ≠ [] → z.block < n₀ ∧ ¬ Z z.block
theorem GrZ.chg {W W':World} {Z:Nat → Prop} {n₀ Bs L R:Nat} {f:Nat → Value} {xs:Nat → List Int} (h:GrZ W Z n₀ Bs L R f xs) (k:KpY Z n₀ W W'):GrZ W' Z n₀ Bs L R f xs:=by
 have no:∀ {j:Nat},j < n₀ ∧ ¬ Z j → ¬ (Z j ∨ n₀ ≤ j):=fun hj e => by rcases e with e | e; exact hj.2 e; omega
 refine ⟨k.cell (no h.bn) h.b1,h.bn,h.ln,fun r hr => k.cell (no h.ln) (h.cell r hr),fun r hr => ?_⟩
 obtain ⟨a,c,e,s,z⟩:=h.line r hr
 exact ⟨a,c,e,s.chg k (fun y hy hne => no (z y hy hne)),z⟩
theorem grown_alloc (W:World) (o:Obj):W.grownBy (W.alloc o) none:=⟨rfl,rfl,rfl,by simp,fun k hk _ => ((Below.refl W.heap.size W).alloc (Nat.le_refl _) o).block k hk⟩
theorem flP_mono {xs:Nat → List Int}:∀ {k R:Nat},k ≤ R → flP xs k <+: flP xs R
 | k,0,h => by rw [show k = 0 by omega]; exact List.prefix_rfl
 | k,R + 1,h => by
  by_cases e:k = R + 1
  ·rw [e]; exact List.prefix_rfl
  ·exact (flP_mono (by omega:k ≤ R)).trans (List.prefix_append _ _)
theorem flP_part {xs:Nat → List Int} {k R i:Nat} (hk:k < R):(flP xs k ++ ((xs k).take i).map (fun c => ((k:Int),c))) <+: flP xs R:=by
 refine List.IsPrefix.trans ?_ (flP_mono (show k + 1 ≤ R by omega))
 show _ <+: flP xs k ++ (xs k).map (fun c => ((k:Int),c))
 rw [List.prefix_append_right_inj]
 exact (List.take_prefix i (xs k)).map _
theorem take_map_snoc {ys:List Int} {i:Nat} {x:Int} (k:Int) (hi:i < ys.length) (hx:ys.getD i 0 = x):(ys.take (i + 1)).map (fun c => (k,c)) = (ys.take i).map (fun c => (k,c)) ++ [(k,x)]:=by
 rw [take_snoc hi hx,List.map_append]
 rfl
set_option maxRecDepth 100000 in
set_option maxHeartbeats 8000000 in
theorem cells1_in (m:Nat) (hm:1 ≤ m) (l Bs n₀:Nat) (Z:Nat → Prop) (L R:Nat) (f:Nat → Value) (xs:Nat → List Int) (hR:R ≤ 128) (hxl:∀ r,r < R → (xs r).length ≤ 17592186044000) (J Jx:List (Int × Int) → World → Prop) (W:World) (hJa:AbidesFrom W.heap.size J)
  (hY:∀ pre x W1,J pre W1 → pre.length < (flP xs R).length → YieldAt Fence.wide (m - 1) Tryz.prog l (encP x) W1 fun e W' =>
   (e = .returned (.bool true) ∧ J (pre ++ [x]) W' ∧ KpY Z n₀ W1 W') ∨ (e = .returned (.bool false) ∧ Jx (pre ++ [x]) W'))
  (hn0:n₀ ≤ W.heap.size) (hG:GrZ W Z n₀ Bs L R f xs) (h0:J [] W) :
  CallsIn Fence.wide m Tryz.prog 139 #[.func (.yield l) #[] #[],.pointer (some ⟨Bs,0,none⟩)] W fun e W' => (∃ v,e = .returned v) ∧
   ((∃ ys,ys = flP xs R ∧ J ys W') ∨ (∃ pre,(pre ≠ [] ∧ pre <+: flP xs R) ∧ Jx pre W')):=by
 refine callsIn_of_wp Tryz.func139 rfl trivial ?_ rfl
 simp only [Tryz.ntmps139,List.size_toArray,List.length_cons,List.length_nil,Nat.reduceAdd,Nat.reduceSub,Array.replicate_succ,Array.replicate_zero,List.push_toArray,List.append_toArray,List.nil_append,List.cons_append]
 have HY:=Hj hY
 have H0:=Hj h0
 have HG:=Hj hG
 have b1:=hG.b1
 clear hY h0 hG
 gi_wp2_with fail
 gi_loopw [10,3,4] (fun kv _ _ wr => ∃ k:Nat,k ≤ R ∧ kv = .int .i64 (k:Int) ∧ Hid (J (flP xs k) wr ∧ KpY Z n₀ W wr)) (fun kv _ _ _ => R - (intOf kv).toNat)
 case atStart => exact ⟨0,Nat.zero_le _,rfl,Hj ⟨Uh H0,Chg.refl _ _⟩⟩
 case round =>
  obtain ⟨k,hk,rfl,HI⟩:=hrel
  clear b1
  by_cases hlt:k < R
  ·have hlt':(k:Int) < (R:Int):=by omega
   have hg:=(Uh HG).chg (Uh HI).2
   have lk:=hg.cell k hlt
   obtain ⟨a,c,e,_,_⟩:=hg.line k hlt
   rw [e] at lk
   have HE:=Hj e
   have hnl:=hxl k hlt
   obtain ⟨n,hn⟩:∃ n,(xs k).length = n:=⟨_,rfl⟩
   rw [hn] at lk hnl
   have HN:=Hj hn
   clear hg e hn
   gi_wp2_with fail
   gi_loopw [17,6] (fun iv _ wq => ∃ i:Nat,i ≤ n ∧ iv = .int .i64 (i:Int) ∧ Hid (J (flP xs k ++ ((xs k).take i).map (fun c => ((k:Int),c))) wq ∧ KpY Z n₀ W wq)) (fun iv _ _ => n - (intOf iv).toNat)
   case atStart => exact ⟨0,Nat.zero_le _,rfl,Hj ⟨by simpa using (Uh HI).1,(Uh HI).2⟩⟩
   case round =>
    clear lk
    obtain ⟨i,hi,rfl,HQ⟩:=hrel
    by_cases hin:i < n
    ·have hin':(i:Int) < (n:Int):=by omega
     have hg:=(Uh HG).chg (Uh HQ).2
     obtain ⟨a',c',e',hs,_⟩:=hg.line k hlt
     rw [Uh HE] at e'
     injection e' with e1 e2 e3
     subst e1 e3
     rw [Uh HN] at hs
     obtain ⟨b,off,rfl,hc⟩:=hs.at (by omega)
     have sc:=hc i hin
     obtain ⟨x,hx⟩:∃ x,(xs k).getD i 0 = x:=⟨_,rfl⟩
     rw [hx] at sc
     have hJ1:=hJa _ wr (wr.alloc (.cells #[.int .i64 x] 217)) none (Uh HQ).1 (grown_alloc _ _) (fun r e => by cases e)
     have hlen:(flP xs k ++ ((xs k).take i).map (fun c => ((k:Int),c))).length < (flP xs R).length:=by
      have h1:=(flP_part (xs:=xs) (i:=i + 1) hlt).length_le
      rw [take_map_snoc (k:Int) (by rw [Uh HN]; exact hin) hx,← List.append_assoc,List.length_append] at h1
      simp at h1 ⊢
      omega
     obtain ⟨wx,hwx⟩:∃ y,wr.alloc (.cells #[.int .i64 x] 217) = y:=⟨_,rfl⟩
     have q0:wx.cell? ⟨wr.heap.size,0,none⟩ = some (.int .i64 x):=by rw [← hwx]; simp
     have hpt:=part_cell (w:=wx) (B:=wr.heap.size) (cur:=#[.int .i64 x]) (by rw [← hwx]; exact alloc_block _ _)
     have HKx:=Hj (show KpY Z n₀ wr wx from by rw [← hwx]; exact Chg.of_below (bAl))
     rw [hwx] at hJ1
     obtain ⟨fn,tmps,assign,body,hy,hRR⟩:=Uh HY _ ((k:Int),x) wx hJ1 hlen
     unfold encP at hy
     dsimp only at hy
     have HR:=Hj hRR
     have HXX:=Hj (show (xs k).getD i 0 = x from hx)
     clear hRR hg hs hc hx hJ1 hlen e2
     gi_wp2_with fail
     refine (Uh HR).mono ?_
     rintro e3 W3 (⟨rfl,hJ3,hk3⟩ | ⟨rfl,hJx3⟩)
     ·have HJ3:=Hj (And.intro hJ3 (((Uh HQ).2.trans (Uh HKx)).trans hk3))
      clear hJ3 hk3
      gi_wp2_with fail
      go_roundw
      case rel =>
       refine ⟨i + 1,by omega,by (first | rfl | go_num),Hj ⟨?_,(Uh HJ3).2⟩⟩
       rw [take_map_snoc (k:Int) (by rw [Uh HN]; exact hin) (Uh HXX),← List.append_assoc]
       exact (Uh HJ3).1
      case measure => first | (simp [intOf]; done) | (simp [intOf]; omega)
     ·have HJx3:=Hj hJx3
      clear hJx3
      gi_wp2_with fail
      refine bodyPost_ret (results_none rfl _ _ _) rfl ?_
      refine ⟨⟨_,rfl⟩,.inr ⟨_,⟨by simp,?_⟩,Uh HJx3⟩⟩
      have h1:=flP_part (xs:=xs) (i:=i + 1) hlt
      rw [take_map_snoc (k:Int) (by rw [Uh HN]; exact hin) (Uh HXX),← List.append_assoc] at h1
      exact h1
    ·obtain rfl:i = n:=by omega
     have hin':¬ (i:Int) < (i:Int):=by omega
     gi_wp2_with fail
     go_roundw
     case rel =>
      refine ⟨k + 1,by omega,by (first | rfl | go_num),Hj ⟨?_,(Uh HQ).2⟩⟩
      have h1:=(Uh HQ).1
      rw [← Uh HN,List.take_length] at h1
      exact h1
     case measure => first | (simp [intOf]; done) | (simp [intOf]; omega)
  ·obtain rfl:k = R:=by omega
   have hlt':¬ (k:Int) < (k:Int):=by omega
   gi_wp2_with fail
   go_end0
   exact ⟨⟨_,rfl⟩,.inl (Uh HI).1⟩
set_option maxHeartbeats 1000000 in
theorem cells_in (m:Nat) (width:Int) (L R:Nat) (w:World) :
  CallsIn Fence.wide m Tryz.prog 118 #[.agg #[.int .i64 width,.slice (some ⟨L,0,none⟩) R R]] w fun e w' => e = .returned (.func (.func 139) #[] #[.pointer (some ⟨w.heap.size,0,none⟩)]) ∧ w' = w.alloc (.cells #[.int .i64 width,.slice (some ⟨L,0,none⟩) R R] 178):=by
 refine callsIn_of_wp Tryz.func118 rfl trivial ?_ rfl
 simp only [Tryz.ntmps118,List.size_toArray,List.length_cons,List.length_nil,Nat.reduceAdd,Nat.reduceSub,Array.replicate_succ,Array.replicate_zero,List.push_toArray,List.append_toArray,List.nil_append,List.cons_append]
 gi_wp2
 go_ret
 exact ⟨rfl,rfl⟩
theorem cells_stops (m:Nat) (hm:1 ≤ m) (Z:Nat → Prop) (Bs L R:Nat) (f:Nat → Value) (xs:Nat → List Int) (w:World) (hR:R ≤ 128) (hxl:∀ r,r < R → (xs r).length ≤ 17592186044000) (hG:GrZ w Z w.heap.size Bs L R f xs) :
  SeqStopsK Fence.wide m Tryz.prog 139 #[.pointer (some ⟨Bs,0,none⟩)] encP (KpY Z w.heap.size) (fun ys => ys = flP xs R) (fun pre => pre ≠ [] ∧ pre <+: flP xs R) (flP xs R).length w:=fun l J Jx W hW hJ _ hY h0 =>
 cells1_in m hm l Bs w.heap.size Z L R f xs hR hxl J Jx W hJ hY hW.size (hG.chg (Chg.of_below hW)) h0
end Go.Proofs.YtgjokididdffhaaGreat
