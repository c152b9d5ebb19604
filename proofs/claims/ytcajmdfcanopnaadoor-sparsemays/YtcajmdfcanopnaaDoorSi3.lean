/- Sj1 -/
import Derived.Test.YtcajmdfcanopnaaDoorSa0
import Derived.Test.YtcajmdfcanopnaaDoorSa6
import Derived.Test.YtcajmdfcanopnaaDoorSi1
import Derived.Test.YtcajmdfcanopnaaDoorSi2
import Derived.Test.YtcajmdfcanopnaaDoorBits
namespace Go.Proofs.YtcajmdfcanopnaaDoor
open Go.ChangeShapes Go.WideShapes Go.ChangeAt Go.RowKit Go.Deep
set_option linter.unusedVariables false
theorem law_bytesI:Tryd.prog.bytesOf 3 = 8:=by kernel_rfl
theorem law_cellsI:Tryd.prog.cellsOf 3 = 1:=by kernel_rfl
theorem law_cellsIs:Tryd.prog.cellsOf 22 = 1:=by kernel_rfl
theorem law_cellsQs:Tryd.prog.cellsOf 25 = 1:=by kernel_rfl
theorem law_cellsP:Tryd.prog.cellsOf 24 = 4:=by kernel_rfl
theorem law_cellsM:Tryd.prog.cellsOf 27 = 5:=by kernel_rfl
theorem trod_s4 {H:Type} {enc:TypeId × Value → H} {P:Program} {w:World} {base:Nat} {spare:Nat → Bool} {held:Bool} {t:TypeId} {f0 f1 f2 f3:Field} {fuel:Nat} {cs:List Value} {x:DataW H × List MemPlace} (ht:P.underlying t = some (.struct #[f0,f1,f2,f3])) (h:DataW.trod enc P w base spare held fuel t cs = some x) :
  ∃ y0 y1 y2 y3 n,x = (.agg [y0.1,y1.1,y2.1,y3.1],y0.2 ++ (y1.2 ++ (y2.2 ++ y3.2))) ∧ cs.length = P.cellsOf t ∧ DataW.trod enc P w base spare held n f0.type ((cs.drop f0.offset).take (P.cellsOf f0.type)) = some y0 ∧
   DataW.trod enc P w base spare held n f1.type ((cs.drop f1.offset).take (P.cellsOf f1.type)) = some y1 ∧ DataW.trod enc P w base spare held n f2.type ((cs.drop f2.offset).take (P.cellsOf f2.type)) = some y2 ∧ DataW.trod enc P w base spare held n f3.type ((cs.drop f3.offset).take (P.cellsOf f3.type)) = some y3:=by
 obtain ⟨xs,n,_,rfl,hl,hlen,hf⟩:=DataW.trod_struct ht h
 match xs,hlen with
 | [y0,y1,y2,y3],_ => exact ⟨y0,y1,y2,y3,n,by simp,hl,by simpa using hf 0 f0 rfl,by simpa using hf 1 f1 rfl,by simpa using hf 2 f2 rfl,by simpa using hf 3 f3 rfl⟩
theorem trod_intsZ {H:Type} {enc:TypeId × Value → H} {W:World} {fuel:Nat} {cs:List Value} {x:DataW H × List MemPlace}
  (h:DataW.trod enc Tryd.prog W 0 (fun _ => true) true fuel 22 cs = some x) (hz:∀ k ∈ x.1.weights Tryd.prog 22,k ≤ reachBytes) :
  ∃ a n c xs,cs = [.slice a n c] ∧ SlI W a n c xs ∧ n ≤ 17592186044000:=by
 rcases open_ints Tryd.underlying22 Tryd.underlying3 law_cellsI h with ⟨rfl,_⟩ | ⟨y,n,c,zs,rfl,_,hl,hm,hzl,rfl,hcell,hwz⟩
 ·exact ⟨none,0,0,[],rfl,SlI.nil _,Nat.zero_le _⟩
 ·have hzl':zs.length = c:=by simpa using hzl
  have hb:=hz (((lits (H:=H) .i64 (zs.take n)).length + (lits (H:=H) .i64 (zs.drop n)).length) * Tryd.prog.bytesOf 3) (by simp [DataW.weights,Tryd.underlying22])
  have hlen:(lits (H:=H) .i64 (zs.take n)).length + (lits (H:=H) .i64 (zs.drop n)).length = c:=by
   simp [lits]; omega
  rw [hlen,law_bytesI] at hb
  unfold reachBytes at hb
  refine ⟨some y,n,c,zs.take n,rfl,⟨by simp; omega,hl,hm,?_⟩,by omega⟩
  by_cases h0:n = 0
  ·left; subst h0; simp
  ·right
   obtain ⟨b,off,spot⟩:=y
   have c0:=hcell 0 (by omega)
   have hspot:spot = none:=by simpa [Addr.add] using World.cell?_spot c0
   subst hspot
   refine ⟨b,off,rfl,?_⟩
   intro i hi
   have hi':i < n:=by simp at hi; omega
   have e:(⟨b,off,none⟩:Addr).add i = ⟨b,off + i,none⟩:=by unfold Addr.add; split <;> simp_all
   have hzi:=hcell i (by omega)
   rw [e] at hzi
   rw [hzi]
   have e2:(zs.take n).getD i 0 = zs.getD i 0:=by
    simp [List.getD,hi',show i < zs.length from by omega]
   rw [e2]
structure PatZ (W:World) (a1:Option Addr) (n1 c1:Nat) (st:List Int) (a2:Option Addr) (n2 c2:Nat) (cols:List Int):Prop where
 h1:SlI W a1 n1 c1 st
 h2:SlI W a2 n2 c2 cols
 l1:n1 ≤ 17592186044000
 l2:n2 ≤ 17592186044000
set_option maxRecDepth 100000 in
theorem trod_patZ {H:Type} {enc:TypeId × Value → H} {W:World} {fuel:Nat} {cs:List Value} {x:DataW H × List MemPlace}
  (h:DataW.trod enc Tryd.prog W 0 (fun _ => true) true fuel 24 cs = some x) (hz:∀ k ∈ x.1.weights Tryd.prog 24,k ≤ reachBytes) :
  ∃ rows width a1 n1 c1 st a2 n2 c2 cols,cs = [.int .i64 rows,.int .i64 width,.slice a1 n1 c1,.slice a2 n2 c2] ∧ PatZ W a1 n1 c1 st a2 n2 c2 cols:=by
 obtain ⟨y0,y1,y2,y3,k,rfl,hl,h0,h1,h2,h3⟩:=trod_s4 Tryd.underlying24 h
 rw [law_cellsP] at hl
 match cs,hl with
 | [c0,c1,c2,c3],_ =>
  simp only [List.drop_zero,List.drop_succ_cons,law_cellsI,law_cellsIs,List.take_succ_cons,List.take_zero] at h0 h1 h2 h3
  obtain ⟨r,e0,_⟩:=DataW.trod_int Tryd.underlying3 h0
  obtain ⟨wd,e1,_⟩:=DataW.trod_int Tryd.underlying3 h1
  obtain ⟨a1,n1,d1,st,e2,k1,k2⟩:=trod_intsZ h2 (fun k hk => hz k (by simp [DataW.weights,DataW.weightsEach,Tryd.underlying24,hk]))
  obtain ⟨a2,n2,d2,cols,e3,k3,k4⟩:=trod_intsZ h3 (fun k hk => hz k (by simp [DataW.weights,DataW.weightsEach,Tryd.underlying24,hk]))
  cases e0
  cases e1
  cases e2
  cases e3
  exact ⟨r,wd,a1,n1,d1,st,a2,n2,d2,cols,rfl,⟨k1,k3,k2,k4⟩⟩
set_option maxRecDepth 100000 in
theorem arg_patZ {H:Type} {enc:TypeId × Value → H} {W:World} {v:Value} {d:DataW H} {p:List MemPlace} {r:Reach} {b0:Nat}
  (hv:Value.okWide Tryd.prog W r b0 24 v) (h:DataW.Trod enc Tryd.prog W 0 (fun _ => true) true 24 v d p) (hz:∀ k ∈ d.weights Tryd.prog 24,k ≤ reachBytes) :
  ∃ rows width a1 n1 c1 st a2 n2 c2 cols,v = patV rows width a1 n1 c1 a2 n2 c2 ∧ PatZ W a1 n1 c1 st a2 n2 c2 cols:=by
 obtain ⟨cs,rfl,hsz⟩:=okWide_struct Tryd.underlying24 hv
 obtain ⟨fuel,hf⟩:=h
 obtain ⟨rows,width,a1,n1,c1,st,a2,n2,c2,cols,e,k⟩:=trod_patZ hf hz
 have hcs:(Value.agg cs).cells.toList = cs.toList:=by simp [Value.cells]
 rw [hcs] at e
 refine ⟨rows,width,a1,n1,c1,st,a2,n2,c2,cols,?_,k⟩
 unfold patV
 congr 1
 apply Array.ext'
 simpa using e
structure ValZ (W:World) (a:Option Addr) (n c:Nat) (qs:List Nq):Prop where
 sl:SlQ W a n c qs
 le:n ≤ 2513169434850
 each:∀ q ∈ qs,q.n ≤ 35184372088000 ∧ q.m ≤ 35184372088000
 nil:∀ q ∈ qs,(q.a = none → q.c = 0) ∧ (q.b = none → q.d = 0)
set_option maxRecDepth 100000 in
theorem trod_valZ {H:Type} {enc:TypeId × Value → H} {W:World} {fuel:Nat} {c0:Value} {x:DataW H × List MemPlace}
  (h:DataW.trod enc Tryd.prog W 0 (fun _ => true) true fuel 25 [c0] = some x) (hz:∀ k ∈ x.1.weights Tryd.prog 25,k ≤ reachBytes) :
  ∃ a n c qs,c0 = .slice a n c ∧ ValZ W a n c qs:=by
 have hs:∃ a n c,c0 = .slice a n c:=by
  rcases DataW.trod_slice Tryd.underlying25 h with ⟨hcs,_⟩ | ⟨a',n',c',elems,rest,m,_,hcs,_⟩
  ·injection hcs with e _
   exact ⟨_,_,_,e⟩
  ·injection hcs with e _
   exact ⟨_,_,_,e⟩
 obtain ⟨a,n,c,rfl⟩:=hs
 obtain ⟨d,p⟩:=x
 obtain ⟨qs,k1,k2,k3,k4⟩:=arg_ratsZ (a:=a) (n:=n) (c:=c) (d:=d) (p:=p) ⟨fuel,by simpa [Value.cells] using h⟩ hz
 exact ⟨a,n,c,qs,rfl,⟨k1,k2,k3,k4⟩⟩
set_option maxRecDepth 100000 in
theorem arg_matZ {H:Type} {enc:TypeId × Value → H} {W:World} {v:Value} {d:DataW H} {p:List MemPlace} {r:Reach} {b0:Nat}
  (hv:Value.okWide Tryd.prog W r b0 27 v) (h:DataW.Trod enc Tryd.prog W 0 (fun _ => true) true 27 v d p) (hz:∀ k ∈ d.weights Tryd.prog 27,k ≤ reachBytes) :
  ∃ rows width a1 n1 c1 st a2 n2 c2 cols a3 n3 c3 qs,v = matV rows width a1 n1 c1 a2 n2 c2 a3 n3 c3 ∧ PatZ W a1 n1 c1 st a2 n2 c2 cols ∧ ValZ W a3 n3 c3 qs:=by
 obtain ⟨cs,rfl,hsz⟩:=okWide_struct Tryd.underlying27 hv
 obtain ⟨fuel,hf⟩:=h
 obtain ⟨y0,y1,k,hx,hl,h0,h1⟩:=trod_struct2 Tryd.underlying27 hf
 rw [law_cellsM] at hl
 have hcs:(Value.agg cs).cells.toList = cs.toList:=by simp [Value.cells]
 generalize hL:(Value.agg cs).cells.toList = L at hl h0 h1
 match L,hl with
 | [c0,c1,c2,c3,c4],_ =>
  simp only [List.drop_zero,List.drop_succ_cons,law_cellsP,law_cellsQs,List.take_succ_cons,List.take_zero] at h0 h1
  cases hx
  obtain ⟨rows,width,a1,n1,d1,st,a2,n2,d2,cols,e0,k0⟩:=trod_patZ h0 (fun k hk => hz k (by simp [DataW.weights,DataW.weightsEach,Tryd.underlying27,hk]))
  obtain ⟨a3,n3,d3,qs,e1,k1⟩:=trod_valZ h1 (fun k hk => hz k (by simp [DataW.weights,DataW.weightsEach,Tryd.underlying27,hk]))
  cases e0
  cases e1
  refine ⟨rows,width,a1,n1,d1,st,a2,n2,d2,cols,a3,n3,d3,qs,?_,k0,k1⟩
  unfold matV
  congr 1
  apply Array.ext'
  rw [hcs] at hL
  simpa using hL
end Go.Proofs.YtcajmdfcanopnaaDoor
namespace Go.Proofs.YtcajmdfcanopnaaDoor
open Go.RowKit Go.Deep
set_option linter.unusedVariables false
set_option maxRecDepth 100000 in
set_option maxHeartbeats 8000000 in
theorem sameInts_eq (a1 a2:Option Addr) (n c1 c2:Nat) (xs:List Int) (w:World) (h1:SlI w a1 n c1 xs) (h2:SlI w a2 n c2 xs) (hn:n ≤ 140737488355328) :
  Calls Tryd.prog 21 #[.slice a1 n c1,.slice a2 n c2] w fun e w' => e = .returned (.bool true) ∧ ∃ m,w' = w.drewN m:=by
 have tn:((n:Int) != (n:Int)) = false:=by simp
 have H1:=Hj h1
 have H2:=Hj h2
 clear h1 h2
 go_enter Tryd.func21,Tryd.ntmps21
 go_wp2_with fail
 go_loopw [5] (fun iv wr => ∃ q:Nat,q ≤ n ∧ iv = .int .i64 (q:Nat) ∧ Hid (Dr w wr)) (fun iv _ => n - (intOf iv).toNat)
 case atStart => exact ⟨0,Nat.zero_le _,rfl,Dr.refl _⟩
 case round =>
  obtain ⟨q,hq,rfl,HW⟩:=hrel
  by_cases hlt:q < n
  ·have hlt':(q:Int) < (n:Int):=by omega
   obtain ⟨g1,o1,rfl,k1⟩:=((Uh H1).below (Uh HW).below).at (by omega)
   obtain ⟨g2,o2,rfl,k2⟩:=((Uh H2).below (Uh HW).below).at (by omega)
   have z1:=k1 q hlt
   have z2:=k2 q hlt
   generalize xs.getD q 0 = x at *
   have tx:((x:Int) != x) = false:=by simp
   clear k1 k2
   go_wp2_with fail
   go_quiet (fail)
   go_wp2_with fail
   exact ⟨⟨q + 1,by omega,by (first | rfl | go_num),Hj ((Uh HW).n _)⟩,by simp [intOf]; omega⟩
  ·have hq2:q = n:=by omega
   subst hq2
   have hlt':¬ (q:Int) < (q:Int):=by omega
   go_wp2_with fail
   go_ret
   exact ⟨rfl,Uh HW⟩
end Go.Proofs.YtcajmdfcanopnaaDoor
