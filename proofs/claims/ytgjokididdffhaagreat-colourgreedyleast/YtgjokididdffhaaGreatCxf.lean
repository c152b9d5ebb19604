/- Cxf -/
import Derived.Test.YtgjokididdffhaaGreatCxd
import Derived.Test.YtgjokididdffhaaGreatCv4
import Derived.Test.YtgjokididdffhaaGreatCg2
import Derived.RangeFuncNested
import Derived.RangeFuncBound
import Derived.RangeFuncCalls
import Derived.RangeFuncLeaves
import Derived.Shelf.Abstract
import Derived.OwnWalkIn
import Derived.TacticsInMore
import Derived.LoopNIn
import Derived.LoopIn
namespace Go.Proofs.YtgjokididdffhaaGreat
open Go.RowKit Go.Deep Go.Shelf
set_option linter.unusedVariables false
attribute [local go_sem] Oper.semAt_some

def encV (x:Int):Array Value:=#[.int .i64 x]
set_option maxRecDepth 100000 in
set_option maxHeartbeats 4000000 in
theorem vals1_in (m:Nat) (hm:1 ≤ m) (l Bs n₀:Nat) (a:Option Addr) (n cap:Nat) (xs:List Int) (hBn:Bs < n₀) (J Jx:List Int → World → Prop)
  (hY:∀ pre x W,J pre W → pre.length < n → YieldAt Fence.wide (m - 1) Tryz.prog l (encV x) W fun e W' =>
   (e = .returned (.bool true) ∧ J (pre ++ [x]) W' ∧ Below n₀ W W') ∨ (e = .returned (.bool false) ∧ Jx (pre ++ [x]) W'))
  (W:World) (hBs:W.cell? ⟨Bs,0,none⟩ = some (.slice a n cap)) (hs:SlI W a n cap xs) (hn:n ≤ 17592186044416) (hc:∀ z,a = some z → 0 < n → z.block < n₀) (h0:J [] W) :
  CallsIn Fence.wide m Tryz.prog 155 #[.func (.yield l) #[] #[],.pointer (some ⟨Bs,0,none⟩)] W fun e W' => (∃ v,e = .returned v) ∧
   ((∃ ys,ys = xs ∧ J ys W') ∨ (∃ pre,True ∧ Jx pre W')):=by
 refine callsIn_of_wp Tryz.func155 rfl trivial ?_ rfl
 simp only [Tryz.ntmps155,List.size_toArray,List.length_cons,List.length_nil,Nat.reduceAdd,Nat.reduceSub,Array.replicate_succ,Array.replicate_zero,List.push_toArray,List.append_toArray,List.nil_append,List.cons_append]
 have HC:=Hj hc
 have HY:=Hj hY
 have H0:=Hj h0
 have HS:=Hj hs
 have HB:=Hj hBs
 clear hc hY h0 hs
 gi_wp2_with fail
 gi_loopw [7,4] (fun iv _ wr => ∃ i:Nat,i ≤ n ∧ iv = .int .i64 (i:Int) ∧ Hid (J (xs.take i) wr ∧ Below n₀ W wr)) (fun iv _ _ => n - (intOf iv).toNat)
 case atStart => exact ⟨0,Nat.zero_le _,rfl,Hj ⟨by simpa using Uh H0,Below.refl _ _⟩⟩
 case round =>
  clear hBs
  obtain ⟨i,hi,rfl,HI⟩:=hrel
  by_cases hin:i < n
  ·have hin':(i:Int) < (n:Int):=by omega
   obtain ⟨b,off,rfl,hcs⟩:=(Uh HS).at (by omega)
   have hb:=Uh HC _ rfl (by omega)
   obtain ⟨x,hx⟩:∃ x,xs.getD i 0 = x:=⟨_,rfl⟩
   have sc:=((Uh HI).2.cell (p:=⟨b,off + i,none⟩) hb).trans (hcs i hin)
   rw [hx] at sc
   obtain ⟨fn,tmps,assign,body,hy,hRR⟩:=Uh HY _ x wr (Uh HI).1 (by rw [List.length_take]; omega)
   unfold encV at hy
   have HR:=Hj hRR
   have HXX:=Hj (show xs.getD i 0 = x from hx)
   clear hRR hcs hx hb
   gi_wp2_with fail
   refine (Uh HR).mono ?_
   rintro e3 W3 (⟨rfl,hJ3,hk3⟩ | ⟨rfl,hJx3⟩)
   ·have HJ3:=Hj (And.intro hJ3 ((Uh HI).2.trans hk3))
    clear hJ3 hk3
    gi_wp2_with fail
    go_roundw
    case rel =>
     refine ⟨i + 1,by omega,by (first | rfl | go_num),Hj ⟨?_,(Uh HJ3).2⟩⟩
     rw [take_snoc (by rw [(Uh HS).len]; exact hin) (Uh HXX)]
     exact (Uh HJ3).1
    case measure => first | (simp [intOf]; done) | (simp [intOf]; omega)
   ·have HJx3:=Hj hJx3
    clear hJx3
    gi_wp2_with fail
    refine bodyPost_ret (results_none rfl _ _ _) rfl ?_
    exact ⟨⟨_,rfl⟩,.inr ⟨_,trivial,Uh HJx3⟩⟩
  ·obtain rfl:i = n:=by omega
   have hin':¬ (i:Int) < (i:Int):=by omega
   gi_wp2_with fail
   go_end0
   refine ⟨⟨_,rfl⟩,.inl ?_⟩
   have h1:=(Uh HI).1
   rw [← (Uh HS).len,List.take_length] at h1
   exact h1
set_option maxHeartbeats 1000000 in
theorem vals_in (m:Nat) (a:Option Addr) (n c:Nat) (w:World) :
  CallsIn Fence.wide m Tryz.prog 150 #[.slice a n c] w fun e w' => e = .returned (.func (.func 155) #[] #[.pointer (some ⟨w.heap.size,0,none⟩)]) ∧ w' = w.alloc (.cells #[.slice a n c] 23):=by
 refine callsIn_of_wp Tryz.func150 rfl trivial ?_ rfl
 simp only [Tryz.ntmps150,List.size_toArray,List.length_cons,List.length_nil,Nat.reduceAdd,Nat.reduceSub,Array.replicate_succ,Array.replicate_zero,List.push_toArray,List.append_toArray,List.nil_append,List.cons_append]
 gi_wp2
 go_ret
 exact ⟨rfl,rfl⟩
theorem vals_stops (m:Nat) (hm:1 ≤ m) (Bs:Nat) (a:Option Addr) (n cap:Nat) (xs:List Int) (w:World) (hBs:Bs < w.heap.size) (hcB:w.cell? ⟨Bs,0,none⟩ = some (.slice a n cap)) (h:SlI w a n cap xs) (hn:n ≤ 17592186044416) :
  SeqStopsK Fence.wide m Tryz.prog 155 #[.pointer (some ⟨Bs,0,none⟩)] encV (Below w.heap.size) (fun ys => ys = xs) (fun _ => True) n w:=fun l J Jx W hW _ _ hY h0 => by
 refine vals1_in m hm l Bs w.heap.size a n cap xs hBs J Jx hY W ((hW.cell (p:=⟨Bs,0,none⟩) hBs).trans hcB) (h.below hW) hn (fun z hz h0 => ?_) h0
 obtain ⟨b,off,e,hc⟩:=h.at h0
 rw [hz] at e
 cases e
 exact World.block_lt_of_cell? _ _ (hc 0 h0)
end Go.Proofs.YtgjokididdffhaaGreat
