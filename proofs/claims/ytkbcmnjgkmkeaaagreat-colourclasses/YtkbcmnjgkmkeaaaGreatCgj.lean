/- Si8 -/
import Derived.Test.YtkbcmnjgkmkeaaaGreatSp3
import Derived.Test.YtkbcmnjgkmkeaaaGreatCgd
import Derived.Test.YtkbcmnjgkmkeaaaGreatCgi
namespace Go.Proofs.YtkbcmnjgkmkeaaaGreat
open Go.RowKit Go.Deep
set_option linter.unusedVariables false
def givO:Obj:=.cells #[.slice none 0 0,.slice none 0 0,.slice none 0 0,.slice none 0 0,.slice none 0 0,.slice none 0 0,.slice none 0 0,.slice none 0 0,.slice none 0 0,.slice none 0 0,.slice none 0 0,.slice none 0 0,.slice none 0 0,.slice none 0 0,.slice none 0 0,.slice none 0 0,.slice none 0 0,.slice none 0 0,.slice none 0 0,.slice none 0 0] 34
theorem nil20 (i:Nat) (h:i < 20):(#[.slice none 0 0,.slice none 0 0,.slice none 0 0,.slice none 0 0,.slice none 0 0,.slice none 0 0,.slice none 0 0,.slice none 0 0,.slice none 0 0,.slice none 0 0,.slice none 0 0,.slice none 0 0,.slice none 0 0,.slice none 0 0,.slice none 0 0,.slice none 0 0,.slice none 0 0,.slice none 0 0,.slice none 0 0,.slice none 0 0]:Array Value)[i]? = some (.slice none 0 0):=by
 have:(#[.slice none 0 0,.slice none 0 0,.slice none 0 0,.slice none 0 0,.slice none 0 0,.slice none 0 0,.slice none 0 0,.slice none 0 0,.slice none 0 0,.slice none 0 0,.slice none 0 0,.slice none 0 0,.slice none 0 0,.slice none 0 0,.slice none 0 0,.slice none 0 0,.slice none 0 0,.slice none 0 0,.slice none 0 0,.slice none 0 0]:Array Value) = Array.replicate 20 (.slice none 0 0):=rfl
 rw [this,Array.getElem?_replicate,if_pos h]
theorem GivI.made (w:World):GivI (w.alloc givO) w.heap.size (.slice none 0 0) (.slice none 0 0) [] (fun _ => .slice none 0 0):=by
 refine ⟨⟨_,alloc_block w _,rfl,rfl,rfl,fun i _ h20 => nil20 i h20⟩,⟨rfl,.inl ⟨rfl,rfl⟩⟩,⟨rfl,.inl ⟨rfl,rfl⟩⟩,fun k e => by simp [Value.ownBlock] at e,fun e he => by cases he⟩
set_option maxRecDepth 20000 in
set_option maxHeartbeats 1000000 in
theorem num12_any (x:Int) (w:World):Calls Tryz.prog 7 #[.int .i64 x] w fun e w' => e = .returned (.int .i64 x) ∧ w' = w:=by
 go_enter Tryz.func7,Tryz.ntmps7
 go_wp2_with fail
 try go_ret
 exact ⟨rfl,rfl⟩
structure PaB (W:World) (B:Nat) (v0 v1:Value) (X n:Nat) (S C:List Int) (a1:Option Addr) (c1:Nat) (a2:Option Addr) (c2:Nat):Prop where
 box:BoxP W X [.int .i64 (n:Int),.int .i64 (n:Int),.slice a1 S.length c1,.slice a2 C.length c2]
 s1:SlI W a1 S.length c1 S
 s2:SlI W a2 C.length c2 C
 nx:¬ Own B v0 v1 X
 n1:∀ z,a1 = some z → S ≠ [] → ¬ Own B v0 v1 z.block
 n2:∀ z,a2 = some z → C ≠ [] → ¬ Own B v0 v1 z.block
theorem PaB.below {W W':World} {B:Nat} {v0 v1:Value} {X n:Nat} {S C:List Int} {a1:Option Addr} {c1:Nat} {a2:Option Addr} {c2:Nat} (h:PaB W B v0 v1 X n S C a1 c1 a2 c2) (k:Below W.heap.size W W'):PaB W' B v0 v1 X n S C a1 c1 a2 c2 :=
 ⟨h.box.below k,h.s1.below k,h.s2.below k,h.nx,h.n1,h.n2⟩
theorem PaB.made {W W':World} {B:Nat} {v0 v1:Value} {es:List EntI} {rs:Nat → Value} {n:Nat} {S C:List Int} {a1:Option Addr} {c1:Nat} {a2:Option Addr} {c2:Nat} (hg:GivI W B v0 v1 es rs) (s1:SlI W' a1 S.length c1 S) (s2:SlI W' a2 C.length c2 C) (k:Below W.heap.size W W') (f1:∀ z,a1 = some z → W.heap.size ≤ z.block) (f2:∀ z,a2 = some z → W.heap.size ≤ z.block) :
  PaB (W'.alloc (.cells #[.int .i64 (n:Int),.int .i64 (n:Int),.slice a1 S.length c1,.slice a2 C.length c2] 61)) B v0 v1 W'.heap.size n S C a1 c1 a2 c2:=by
 have ba:Below W'.heap.size W' (W'.alloc (.cells #[.int .i64 (n:Int),.int .i64 (n:Int),.slice a1 S.length c1,.slice a2 C.length c2] 61)):=bAl
 refine ⟨BoxP.made W' _ _,s1.below ba,s2.below ba,fun e => ?_,fun z hz _ e => ?_,fun z hz _ e => ?_⟩
 ·have:=hg.own_lt e; have:=k.size; omega
 ·have:=hg.own_lt e; have:=f1 z hz; omega
 ·have:=hg.own_lt e; have:=f2 z hz; omega
end Go.Proofs.YtkbcmnjgkmkeaaaGreat
