/- Ru1 -/
import Derived.Test.YtcajmdfcanopnaaDoorBy7
import Derived.Test.YtcajmdfcanopnaaDoorWrc
import Derived.Test.YtcajmdfcanopnaaDoorWr1
import Derived.Test.YtcajmdfcanopnaaDoorRows
import Derived.Deep.Matrix
import Derived.Test.YtcajmdfcanopnaaDoorBits
namespace Go.Proofs.YtcajmdfcanopnaaDoor
open Go.RowKit Go.Deep
set_option linter.unusedVariables false
structure Nq where
 g:Bool
 a:Option Addr
 n:Nat
 c:Nat
 x:List Nat
 b:Option Addr
 m:Nat
 d:Nat
 y:List Nat
structure SlQ (w:World) (a:Option Addr) (n c:Nat) (ps:List Nq):Prop where
 len:ps.length = n
 le:n ≤ c
 cells:ps = [] ∨ ∃ b off,a = some ⟨b,off,none⟩ ∧ ∀ i p,ps[i]? = some p → w.cell? ⟨b,off + i * 3,none⟩ = some (.bool p.g) ∧ w.cell? ⟨b,off + i * 3 + 1,none⟩ = some (.slice p.a p.n p.c) ∧ w.cell? ⟨b,off + i * 3 + 2,none⟩ = some (.slice p.b p.m p.d)
 each:∀ p ∈ ps,(Sl w p.a p.n p.c p.x ∧ Sl w p.b p.m p.d p.y) ∧ Ok p.x ∧ Ok p.y
theorem SlQ.below {w w':World} {a:Option Addr} {n c:Nat} {ps:List Nq} (h:SlQ w a n c ps) (k:Below w.heap.size w w'):SlQ w' a n c ps:=by
 refine ⟨h.len,h.le,?_,fun p hp => ⟨⟨(h.each p hp).1.1.below k,(h.each p hp).1.2.below k⟩,(h.each p hp).2⟩⟩
 rcases h.cells with e | ⟨b,off,e,hc⟩
 ·exact .inl e
 ·refine .inr ⟨b,off,e,fun i p hp => ?_⟩
  obtain ⟨h1,h2,h3⟩:=hc i p hp
  exact ⟨(ck k h1),(ck k h2),(ck k h3)⟩
theorem SlQ.at' {w:World} {a:Option Addr} {n c:Nat} {ps:List Nq} (h:SlQ w a n c ps) {i:Nat} (hi:i < n) :
  ∃ b off p,a = some ⟨b,off,none⟩ ∧ ps[i]? = some p ∧ (w.cell? ⟨b,off + i * 3,none⟩ = some (.bool p.g) ∧ w.cell? ⟨b,off + i * 3 + 1,none⟩ = some (.slice p.a p.n p.c) ∧ w.cell? ⟨b,off + i * 3 + 2,none⟩ = some (.slice p.b p.m p.d)) ∧ (Sl w p.a p.n p.c p.x ∧ Sl w p.b p.m p.d p.y) ∧ Ok p.x ∧ Ok p.y:=by
 have hl:=h.len
 have hi':i < ps.length:=by omega
 have hp:ps[i]? = some ps[i]:=List.getElem?_eq_getElem hi'
 rcases h.cells with e | ⟨b,off,e,hc⟩
 ·rw [e] at hl; simp at hl; omega
 ·exact ⟨b,off,ps[i],e,hp,hc i _ hp,h.each _ (List.getElem_mem hi')⟩
def mayQ (ps:List Nq):Bool:=ps.all (fun p => MayR p.g p.x p.y)
theorem mayQ_get {ps:List Nq} (h:mayQ ps = true) {i:Nat} {p:Nq} (hp:ps[i]? = some p):MayR p.g p.x p.y = true:=by
 unfold mayQ at h
 rw [List.all_eq_true] at h
 exact h p (List.mem_of_getElem? hp)
theorem mayQ_false {ps:List Nq} {i:Nat} {p:Nq} (hp:ps[i]? = some p) (h:MayR p.g p.x p.y = false):mayQ ps = false:=by
 cases hm:mayQ ps
 ·rfl
 ·have:=mayQ_get hm hp
  rw [h] at this
  cases this
theorem mayQ_true {ps:List Nq} {n:Nat} (hl:ps.length = n) (h:∀ i p,i < n → ps[i]? = some p → MayR p.g p.x p.y = true):mayQ ps = true:=by
 unfold mayQ
 rw [List.all_eq_true]
 intro p hp
 obtain ⟨i,hi,e⟩:=List.getElem_of_mem hp
 exact h i p (by omega) (by rw [List.getElem?_eq_getElem hi,e])
end Go.Proofs.YtcajmdfcanopnaaDoor
namespace Go.Proofs.YtcajmdfcanopnaaDoor
open Go.ChangeShapes Go.WideShapes Go.ChangeAt Go.RowKit Go.Deep
set_option linter.unusedVariables false

end Go.Proofs.YtcajmdfcanopnaaDoor
namespace Go.Proofs.YtcajmdfcanopnaaDoor
open Go.RowKit Go.Deep
set_option linter.unusedVariables false
structure NqZ (W:World) (p:Nq):Prop where
 sl:(Sl W p.a p.n p.c p.x ∧ Sl W p.b p.m p.d p.y) ∧ Ok p.x ∧ Ok p.y
 le:p.n ≤ 35184372088000 ∧ p.m ≤ 35184372088000
 nil:(p.a = none → p.c = 0) ∧ (p.b = none → p.d = 0)
theorem weights_all {H:Type} {P:Program} {e:TypeId} {l:List (DataW H)} {d:DataW H} (h:d ∈ l) {k:Nat} (hk:k ∈ d.weights P e):k ∈ DataW.weightsAll P e l:=by
 induction l with
 | nil => cases h
 | cons x r ih =>
  unfold DataW.weightsAll
  rcases List.mem_cons.1 h with rfl | h
  ·exact List.mem_append_left _ hk
  ·exact List.mem_append_right _ (ih h)

set_option maxRecDepth 100000 in
theorem trod_ratZ {H:Type} {enc:TypeId × Value → H} {W:World} {fuel:Nat} {cs:List Value} {x:DataW H × List MemPlace}
  (h:DataW.trod enc Tryd.prog W 0 (fun _ => true) true fuel 64 cs = some x) (hz:∀ k ∈ x.1.weights Tryd.prog 64,k ≤ reachBytes) :
  ∃ p:Nq,cs = [.bool p.g,.slice p.a p.n p.c,.slice p.b p.m p.d] ∧ NqZ W p:=by
 obtain ⟨y0,y1,y2,k,hx,hl,h0,h1,h2⟩:=trod_struct3 Tryd.underlying64 h
 rw [law_cellsR] at hl
 subst hx
 match cs,hl with
 | [c0,c1,c2],_ =>
  simp only [List.drop_zero,List.drop_succ_cons,law_cellsB,law_cellsN,List.take_succ_cons,List.take_zero] at h0 h1 h2
  obtain ⟨g,e0,e0'⟩:=DataW.trod_bool Tryd.underlying4 h0
  obtain ⟨a,n,c,xs,e1,k1,k2,k5,k7⟩:=trod_limbsZ h1 (fun k hk => hz k (by simp [DataW.weights,DataW.weightsEach,Tryd.underlying64,hk]))
  obtain ⟨b,m,d,ys,e2,k3,k4,k6,k8⟩:=trod_limbsZ h2 (fun k hk => hz k (by simp [DataW.weights,DataW.weightsEach,Tryd.underlying64,hk]))
  cases e0
  cases e1
  cases e2
  exact ⟨⟨g,a,n,c,xs,b,m,d,ys⟩,rfl,⟨⟨k1,k3⟩,k2,k4⟩,⟨k5,k6⟩,k7,k8⟩
theorem rat_bytes:Tryd.prog.bytesOf 64 = 56:=by kernel_rfl

set_option maxRecDepth 100000 in
theorem arg_ratsZ {H:Type} {enc:TypeId × Value → H} {W:World} {a:Option Addr} {n c:Nat} {d:DataW H} {p:List MemPlace}
  (h:DataW.Trod enc Tryd.prog W 0 (fun _ => true) true 25 (.slice a n c) d p) (hz:∀ k ∈ d.weights Tryd.prog 25,k ≤ reachBytes) :
  ∃ ps,SlQ W a n c ps ∧ n ≤ 2513169434850 ∧ (∀ q ∈ ps,q.n ≤ 35184372088000 ∧ q.m ≤ 35184372088000) ∧ ∀ q ∈ ps,(q.a = none → q.c = 0) ∧ (q.b = none → q.d = 0):=by
 obtain ⟨fuel,h⟩:=h
 rcases DataW.trod_slice Tryd.underlying25 h with ⟨hcs,_⟩ | ⟨a',n',c',elems,rest,m,_,hcs,hx,hb,hl,hm,hlen,hel,hsp,hns⟩
 ·simp [Value.cells] at hcs
  obtain ⟨rfl,rfl,rfl⟩:=hcs
  exact ⟨[],⟨rfl,Nat.le_refl _,.inl rfl,fun e he => by cases he⟩,Nat.zero_le _,(fun e he => by cases he),fun e he => by cases he⟩
 ·simp [Value.cells] at hcs
  obtain ⟨rfl,rfl,rfl⟩:=hcs
  have hd:d = .slice (elems.map Prod.fst) (rest.map Prod.fst):=by injection hx
  rw [hd] at hz
  simp only [DataW.weights,Tryd.underlying25] at hz
  have hw0:=hz _ (List.mem_cons_self)
  rw [rat_bytes] at hw0
  simp only [List.length_map] at hw0
  unfold reachBytes at hw0
  have hwe:∀ e ∈ elems.map Prod.fst,∀ k ∈ e.weights Tryd.prog 64,k ≤ reachBytes:=fun e he k hk => hz k (List.mem_cons_of_mem _ (List.mem_append_left _ (weights_all he hk)))
  by_cases h0:n = 0
  ·subst h0
   exact ⟨[],⟨rfl,hl,.inl rfl,fun e he => by cases he⟩,Nat.zero_le _,(fun e he => by cases he),fun e he => by cases he⟩
  ·have hspot:∃ b off,a' = ⟨b,off,none⟩:=by
    have h1:=hel 0 (by omega)
    rw [law_cellsR] at h1
    rw [List.getElem?_eq_getElem (by omega),Option.bind_eq_some_iff] at h1
    obtain ⟨cs',hcs,hy⟩:=h1
    have hh:=World.cells?_some hcs
    have hc0:=hh.2.2 0 (by decide)
    rw [List.getElem?_eq_getElem (by rw [hh.2.1]; decide)] at hc0
    obtain ⟨b,off,spot⟩:=a'
    have:=World.cell?_spot hc0
    have hs:spot = none:=by simpa [Addr.add] using this
    subst hs
    exact ⟨b,off,rfl⟩
   obtain ⟨b,off,rfl⟩:=hspot
   have addr:∀ (o i:Nat),(⟨b,o,none⟩:Addr).add i = ⟨b,o + i,none⟩:=fun o i => by unfold Addr.add; split <;> simp_all
   have each:∀ i,i < n → ∃ e:Nq,(W.cell? ⟨b,off + i * 3,none⟩ = some (.bool e.g) ∧ W.cell? ⟨b,off + i * 3 + 1,none⟩ = some (.slice e.a e.n e.c) ∧ W.cell? ⟨b,off + i * 3 + 2,none⟩ = some (.slice e.b e.m e.d)) ∧ NqZ W e:=by
    intro i hi
    have h1:=hel i hi
    rw [law_cellsR] at h1
    rw [List.getElem?_eq_getElem (by omega),Option.bind_eq_some_iff] at h1
    obtain ⟨cs',hcs,hy⟩:=h1
    obtain ⟨q,rfl,hq⟩:=trod_ratZ hy (hwe _ (List.mem_map_of_mem (f:=Prod.fst) (List.getElem_mem (show i < elems.length by omega))))
    have hh:=World.cells?_some hcs
    have g0:=hh.2.2 0 (by decide)
    have g1:=hh.2.2 1 (by decide)
    have g2:=hh.2.2 2 (by decide)
    rw [addr,addr] at g0 g1 g2
    exact ⟨q,⟨by simpa using g0,by simpa using g1,by simpa using g2⟩,hq⟩
   have hch:∃ f:Nat → Nq,∀ i,i < n → (W.cell? ⟨b,off + i * 3,none⟩ = some (.bool (f i).g) ∧ W.cell? ⟨b,off + i * 3 + 1,none⟩ = some (.slice (f i).a (f i).n (f i).c) ∧ W.cell? ⟨b,off + i * 3 + 2,none⟩ = some (.slice (f i).b (f i).m (f i).d)) ∧ NqZ W (f i):=by
    refine ⟨fun i => if h:i < n then Classical.choose (each i h) else ⟨false,none,0,0,[],none,0,0,[]⟩,fun i hi => ?_⟩
    simp only [hi,dif_pos]
    exact Classical.choose_spec (each i hi)
   obtain ⟨f,hf⟩:=hch
   refine ⟨(List.range n).map f,⟨by simp,hl,.inr ⟨b,off,rfl,fun i q hq => ?_⟩,fun q hq => ?_⟩,by omega,(fun q hq => ?_),fun q hq => ?_⟩
   ·obtain ⟨hi,e⟩:=List.getElem?_eq_some_iff.1 hq
    have hi':i < n:=by simpa using hi
    simp at e
    subst e
    exact (hf i hi').1
   ·obtain ⟨i,hi,rfl⟩:=List.mem_map.1 hq
    exact (hf i (List.mem_range.1 hi)).2.sl
   ·obtain ⟨i,hi,rfl⟩:=List.mem_map.1 hq
    exact (hf i (List.mem_range.1 hi)).2.le
   ·obtain ⟨i,hi,rfl⟩:=List.mem_map.1 hq
    exact (hf i (List.mem_range.1 hi)).2.nil
def CellsI (w:World) (b off:Nat) (xs:List Int):Prop :=
 ∀ i,i < xs.length → w.cell? ⟨b,off + i,none⟩ = some (.int .i64 (xs.getD i 0))
structure SlI (w:World) (a:Option Addr) (n c:Nat) (xs:List Int):Prop where
 len:xs.length = n
 le:n ≤ c
 cap:c ≤ maxLen
 cells:xs = [] ∨ ∃ b off,a = some ⟨b,off,none⟩ ∧ CellsI w b off xs
theorem SlI.below {w w':World} {a:Option Addr} {n c:Nat} {xs:List Int} (h:SlI w a n c xs) (hb:Below w.heap.size w w'):SlI w' a n c xs :=
 ⟨h.len,h.le,h.cap,h.cells.imp id (fun ⟨b,off,e,k⟩ => ⟨b,off,e,fun i hi => (Chg.of_below hb).cell (S:=fun _ => False) (fun x => x) (k i hi)⟩)⟩
theorem SlI.at {w:World} {a:Option Addr} {n c:Nat} {xs:List Int} (h:SlI w a n c xs) (hn:0 < n):∃ b off,a = some ⟨b,off,none⟩ ∧ ∀ i,i < n → w.cell? ⟨b,off + i,none⟩ = some (.int .i64 (xs.getD i 0)):=by
 rcases h.cells with e | ⟨b,off,e,k⟩
 ·have:=h.len; rw [e] at this; simp at this; omega
 ·exact ⟨b,off,e,fun i hi => k i (by rw [h.len]; exact hi)⟩
theorem SlI.nil (w:World):SlI w none 0 0 []:=⟨rfl,Nat.le_refl _,Nat.zero_le _,.inl rfl⟩
structure RowP (width:Int) (cols:List Int) (x y:Nat):Prop where
 rng:∀ i,x ≤ i → i < y → 0 ≤ cols.getD i 0 ∧ cols.getD i 0 < width
 up:∀ i,x < i → i < y → cols.getD (i - 1) 0 < cols.getD i 0
structure HeadP (rows width:Int) (st cols:List Int):Prop where
 fit:0 ≤ rows ∧ rows ≤ 128 ∧ 0 ≤ width ∧ width ≤ 128
 len:(st.length:Int) = rows + 1
 first:st.getD 0 0 = 0
 last:st.getD rows.toNat 0 = (cols.length:Int)
def SortP (st:List Int) (x:Nat):Prop:=∀ i,x ≤ i → i + 1 < st.length → st.getD i 0 ≤ st.getD (i + 1) 0
structure MayP (rows width:Int) (st cols:List Int):Prop where
 head:HeadP rows width st cols
 sort:SortP st 0
 row:∀ r,r + 1 < st.length → RowP width cols (st.getD r 0).toNat (st.getD (r + 1) 0).toNat
theorem SortP.mono {st:List Int} (h:SortP st 0):∀ d i,i + d < st.length → st.getD i 0 ≤ st.getD (i + d) 0
 | 0,i,_ => Int.le_refl _
 | d + 1,i,hi => Int.le_trans (SortP.mono h d i (by omega)) (h (i + d) (Nat.zero_le _) (by omega))
theorem HeadP.rng {rows width:Int} {st cols:List Int} (h:HeadP rows width st cols) (hs:SortP st 0) {i:Nat} (hi:i < st.length):0 ≤ st.getD i 0 ∧ st.getD i 0 ≤ (cols.length:Int):=by
 have h1:=hs.mono i 0 (by omega)
 rw [Nat.zero_add,h.first] at h1
 have hl:=h.len
 have hf:=h.fit
 have h2:=hs.mono (rows.toNat - i) i (by omega)
 rw [show i + (rows.toNat - i) = rows.toNat by omega,h.last] at h2
 exact ⟨h1,h2⟩
end Go.Proofs.YtcajmdfcanopnaaDoor
